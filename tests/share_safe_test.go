package tests

import (
	"slices"
	"testing"

	"loop.example/maltrun/impl"
)

func TestShareOrderOrdinary(t *testing.T) {
	wantOrder(t, cellar(), texts("b", "c", "d", "a"), true)
	wantFits(t, cellar(), true, "b", "c", "d", "a")
	wantFits(t, cellar(), true, "c", "b", "d", "a")
	wantFits(t, cellar(), true, "b", "d", "a", "c")
	wantFits(t, cellar(), false, "d", "b", "c", "a")
	wantFits(t, cellar(), false, "b", "a", "c", "d")
	wantFits(t, cellar(), false, "a", "b", "c", "d")
}

func TestShareOrderOfNobody(t *testing.T) {
	for _, b := range []impl.ShareBook{{}, {Things: texts(), Batches: []impl.ShareBatch{}}, {Things: texts("keg")}, {Things: numbered("t", 8)}} {
		wantOrder(t, b, nil, true)
		wantFits(t, b, true)
		wantFits(t, b, false, "")
		wantFits(t, b, false, "keg")
		wantFits(t, b, false, "a", "b")
	}
}

func TestShareOrderOfOne(t *testing.T) {
	keg := texts("keg")
	for _, one := range []impl.ShareBatch{batch("a", nil, nil), batch("a", nil, keg), batch("a", keg, keg)} {
		b := impl.ShareBook{Things: keg, Batches: []impl.ShareBatch{one}}
		wantOrder(t, b, texts("a"), true)
		wantFits(t, b, true, "a")
		wantFits(t, b, false)
		wantFits(t, b, false, "a", "a")
		wantFits(t, b, false, "keg")
		wantFits(t, b, false, "")
	}
}

// What a batch has itself does not stand in its way, nor what others need, and have not.
func TestShareOrderWhatStandsInTheWay(t *testing.T) {
	both := texts("keg", "tun")
	all := impl.ShareBook{Things: both, Batches: []impl.ShareBatch{batch("a", nil, both), batch("b", nil, both), batch("c", nil, both)}}
	wantOrder(t, all, texts("a", "b", "c"), true)
	for _, order := range allOrders(texts("a", "b", "c")) {
		wantFits(t, all, true, order...)
	}
	all.Batches[1].Has = texts("tun")
	wantOrder(t, all, texts("b", "a", "c"), true)
	wantFits(t, all, true, "b", "c", "a")
	wantFits(t, all, false, "a", "b", "c")
	wantFits(t, all, false, "c", "b", "a")
	all.Batches[1].Has = both
	wantOrder(t, all, texts("b", "a", "c"), true)
	all.Batches[1].Has, all.Batches[2].Has = texts("tun"), texts("keg")
	wantOrder(t, all, nil, false)
	all.Batches[1].Needs = texts("tun")
	wantOrder(t, all, texts("b", "c", "a"), true)
}

// Of several that can have all they need the first goes; one who could not is looked at again when another is gone.
func TestShareOrderTakesTheFirst(t *testing.T) {
	free := impl.ShareBook{Things: texts("keg"), Batches: batchesCalled(numbered("b", 5)...)}
	wantOrder(t, free, numbered("b", 5), true)
	free.Batches[0].Needs = texts("keg")
	free.Batches[2].Needs, free.Batches[2].Has = texts("keg"), texts("keg")
	wantOrder(t, free, texts("b1", "b2", "b0", "b3", "b4"), true)
	for _, order := range allOrders(batchNames(free)) {
		wantFits(t, free, slices.Index(order, "b2") < slices.Index(order, "b0"), order...)
	}
}

// In a line there is one order alone; in a ring there is none.
func TestShareOrderOfLinesAndRings(t *testing.T) {
	for n := 2; n <= 5; n++ {
		only := numbered("b", n)
		slices.Reverse(only)
		wantOrder(t, line(n), only, true)
		wantOrder(t, ring(n), nil, false)
		for _, order := range allOrders(only) {
			wantFits(t, line(n), slices.Equal(order, only), order...)
			wantFits(t, ring(n), false, order...)
		}
	}
}

// There comes none, though some went.
func TestShareOrderOfARingBesideOthers(t *testing.T) {
	for n := 2; n <= 3; n++ {
		b := ring(n)
		b.Things = append(b.Things, "z")
		b.Batches = slices.Concat(batchesCalled("a"), b.Batches, []impl.ShareBatch{batch("c", texts("z"), texts("z"))})
		wantOk(t, "a ring beside others", impl.ShareBookOk(b), true)
		wantOrder(t, b, nil, false)
		wantFits(t, b, false, "a", "c")
		for _, order := range allOrders(batchNames(b)) {
			wantFits(t, b, false, order...)
		}
	}
}

// Each of the eight things stands in the way alone: who needs it goes behind who has it.
func TestShareOrderAsksEachThing(t *testing.T) {
	things := numbered("t", 8)
	for i, thing := range things {
		for j, other := range things {
			b := impl.ShareBook{Things: things, Batches: []impl.ShareBatch{batch("a", nil, texts(thing)), batch("b", texts(other), texts(other))}}
			want := texts("a", "b")
			if i == j {
				want = texts("b", "a")
			}
			wantOrder(t, b, want, true)
			wantFits(t, b, i != j, "a", "b")
			wantFits(t, b, true, "b", "a")
		}
		rest := slices.DeleteFunc(slices.Clone(things), func(other string) bool { return other == thing })
		b := impl.ShareBook{Things: things, Batches: []impl.ShareBatch{batch("a", rest, things), batch("b", texts(thing), texts(thing))}}
		wantOrder(t, b, texts("b", "a"), true)
		b.Batches[1].Needs = things
		wantOrder(t, b, nil, false)
	}
}

func TestShareFitsOrdersThatAreNone(t *testing.T) {
	for _, order := range [][]string{
		nil, {}, {"b"}, {"b", "c"}, {"b", "c", "d"}, {"b", "c", "a"}, {"c", "d", "a"},
		{"b", "b", "d", "a"}, {"b", "c", "c", "d"}, {"b", "c", "d", "d"}, {"b", "b", "b", "b"}, {"b", "c", "d", "b"},
		{"b", "c", "d", "a", "a"}, {"b", "c", "d", "a", "e"}, {"b", "c", "d", "a", ""}, {"b", "b", "c", "d", "a"}, {"", "b", "c", "d", "a"},
		{"b", "c", "d", "e"}, {"e", "b", "c", "d"}, {"b", "", "d", "a"}, {"b", "c", "d", "A"}, {"b", "keg", "d", "a"}, {"b ", "c", "d", "a"}, {"b\x00", "c", "d", "a"},
		make([]string, 4), make([]string, 100000), slices.Repeat([]string{"b"}, 100000),
	} {
		wantFits(t, cellar(), false, order...)
	}
}

func TestShareSafeOfWhatIsNotOk(t *testing.T) {
	for _, b := range booksNotOk() {
		wantOrder(t, b, nil, false)
		wantFits(t, b, false)
		wantFits(t, b, false, "b", "c", "d", "a")
		wantFits(t, b, false, batchNames(b)...)
	}
}

// wantAsAllOrders holds what the three functions say of a book that is ok against all orders of its batches, and says whether it is safe.
func wantAsAllOrders(t *testing.T, b impl.ShareBook) bool {
	t.Helper()
	safe := false
	for _, order := range allOrders(batchNames(b)) {
		fits := fitsByForm(b, order)
		wantFits(t, b, fits, order...)
		safe = safe || fits
	}
	want, _ := orderByForm(b)
	wantOrder(t, b, want, safe)
	if order, ok := impl.ShareOrder(b); ok && !impl.ShareFits(b, order) {
		t.Errorf("ShareOrder(%v) is %q, which does not fit", b, order)
	}
	if t.Failed() {
		t.FailNow()
	}
	return safe
}

// Promise 10, of each book of few things and batches.
func TestPromise10OfEachSmallBook(t *testing.T) {
	seen := map[bool]int{}
	for _, size := range [][2]int{{0, 0}, {0, 5}, {1, 0}, {8, 0}, {1, 1}, {8, 1}, {4, 2}, {3, 3}, {2, 4}, {1, 5}} {
		for _, b := range everyBook(size[0], size[1]) {
			if !impl.ShareBookOk(b) {
				t.Fatalf("%v is not ok", b)
			}
			seen[wantAsAllOrders(t, b)]++
		}
	}
	if seen[true] < 4000 || seen[false] < 1000 {
		t.Errorf("too few of a sort: %v", seen)
	}
}

// Promise 10, of many books of every size.
func TestPromise10OfManyBooks(t *testing.T) {
	d := &dice{state: 22}
	var safe, not [6]int
	for i := range 6000 {
		b := d.okBook(i%9, i/9%6)
		if wantAsAllOrders(t, b) {
			safe[len(b.Batches)]++
		} else {
			not[len(b.Batches)]++
		}
	}
	if slices.Min(safe[:]) < 200 || slices.Min(not[2:]) < 100 || not[0]+not[1] != 0 {
		t.Errorf("too few of a sort: %v %v", safe, not)
	}
}

// anyOrder makes an order of the batches of a book, spoilt or not.
func (d *dice) anyOrder(b impl.ShareBook) []string {
	order, _ := impl.ShareOrder(b)
	if order == nil || d.below(3) == 0 {
		order = batchNames(b)
	}
	for range d.below(3) {
		order = d.spoilList(order)
	}
	return order
}

func TestShareFitsAsTheDocumentSays(t *testing.T) {
	d := &dice{state: 23}
	seen := map[bool]int{}
	for range 20000 {
		b := d.anyBook()
		order := d.anyOrder(b)
		want := fitsByForm(b, order)
		wantFits(t, b, want, order...)
		if t.Failed() {
			return
		}
		seen[want]++
	}
	if seen[true] < 2000 || seen[false] < 2000 {
		t.Errorf("too few of a sort: %v", seen)
	}
}

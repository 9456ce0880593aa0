package tests

import (
	"fmt"
	"slices"
	"testing"

	"loop.example/maltrun/impl"
)

func TestShareBookOkOrdinary(t *testing.T) {
	for what, b := range map[string]impl.ShareBook{
		"nothing":                    {},
		"empty lists":                {Things: texts(), Batches: []impl.ShareBatch{}},
		"one thing":                  {Things: texts("keg")},
		"one batch":                  {Batches: batchesCalled("a")},
		"one thing, had":             {Things: texts("keg"), Batches: []impl.ShareBatch{batch("a", texts("keg"), texts("keg"))}},
		"a cellar":                   cellar(),
		"a ring":                     ring(5),
		"a line":                     line(5),
		"two need one thing":         {Things: texts("keg"), Batches: []impl.ShareBatch{batch("a", nil, texts("keg")), batch("b", nil, texts("keg"))}},
		"one has what another needs": {Things: texts("keg"), Batches: []impl.ShareBatch{batch("a", texts("keg"), texts("keg")), batch("b", nil, texts("keg"))}},
		"batches called like things": {Things: texts("keg", "tun"), Batches: []impl.ShareBatch{batch("keg", texts("tun"), texts("tun")), batch("tun", texts("keg"), texts("keg"))}},
		"called like ends":           {Things: texts("good", "saved", "scrapped"), Batches: batchesCalled("good", "saved", "scrapped")},
		"the longest names":          {Things: texts("--------", "12345678", "abcdefgh"), Batches: batchesCalled("--------", "12345678")},
	} {
		wantOk(t, what, impl.ShareBookOk(b), true)
	}
}

func TestShareBookOkOfWhatIsNot(t *testing.T) {
	for what, b := range booksNotOk() {
		wantOk(t, what, impl.ShareBookOk(b), false)
	}
}

// Each limit may be met exactly; one more is refused.
func TestShareBookOkCounts(t *testing.T) {
	for n := range 12 {
		names := numbered("", min(n, 10))
		if n > 10 {
			names = append(names, "a")
		}
		wantOk(t, "things", impl.ShareBookOk(impl.ShareBook{Things: names}), n <= 8)
		wantOk(t, "batches", impl.ShareBookOk(impl.ShareBook{Batches: batchesCalled(names...)}), n <= 5)
		all := impl.ShareBook{Things: names, Batches: []impl.ShareBatch{batch("a", names, names)}}
		wantOk(t, "has all", impl.ShareBookOk(all), n <= 8)
	}
}

func TestShareBookOkNamesOfEachByte(t *testing.T) {
	for c := range 256 {
		for _, name := range texts(string([]byte{byte(c)}), "a"+string([]byte{byte(c)}), string([]byte{byte(c)})+"aaaaaaa") {
			fits := c >= 'a' && c <= 'z' || c >= '0' && c <= '9' || c == '-'
			what := fmt.Sprintf("%q", name)
			wantOk(t, what, impl.ShareBookOk(impl.ShareBook{Things: texts(name)}), fits)
			wantOk(t, what, impl.ShareBookOk(impl.ShareBook{Batches: batchesCalled(name)}), fits)
		}
	}
}

// Names are ordered byte by byte, and one that is the beginning of a longer one comes first.
func TestShareBookOkOrderOfNames(t *testing.T) {
	names := texts("-", "--", "-a", "0", "10", "9", "a", "a-", "a0", "aa", "ab", "b", "z", "zzzzzzzz")
	for i, one := range names {
		for j, other := range names {
			pair := texts(one, other)
			whole := sorted(pair)
			wantOk(t, one+" "+other, impl.ShareBookOk(impl.ShareBook{Things: pair}), i < j)
			wantOk(t, one+" "+other, impl.ShareBookOk(impl.ShareBook{Batches: batchesCalled(pair...)}), i < j)
			wantOk(t, one+" "+other, impl.ShareBookOk(impl.ShareBook{Things: whole, Batches: []impl.ShareBatch{batch("a", nil, pair)}}), i < j)
			wantOk(t, one+" "+other, impl.ShareBookOk(impl.ShareBook{Things: whole, Batches: []impl.ShareBatch{batch("a", pair, whole)}}), i < j)
		}
	}
}

// A wrong place is seen wherever it is: each place of each list in turn.
func TestShareBookOkAsksEachPlace(t *testing.T) {
	whole := numbered("t", 8)
	for i := range 8 {
		for _, wrong := range texts("", "T", "zz", "t", "t00000000") {
			list := slices.Clone(whole)
			list[i] = wrong
			fits := i == 7 && wrong == "zz" || i == 0 && wrong == "t"
			wantOk(t, wrong, impl.ShareBookOk(impl.ShareBook{Things: list}), fits)
			wantOk(t, wrong, impl.ShareBookOk(impl.ShareBook{Things: whole, Batches: []impl.ShareBatch{batch("a", nil, list)}}), false)
			wantOk(t, wrong, impl.ShareBookOk(impl.ShareBook{Things: whole, Batches: []impl.ShareBatch{batch("a", list, whole)}}), false)
		}
	}
	for i := range 5 {
		for _, spoil := range []func(one *impl.ShareBatch){
			func(one *impl.ShareBatch) { one.Name = "B" },
			func(one *impl.ShareBatch) { one.Has = texts("t5") },
			func(one *impl.ShareBatch) { one.Needs = nil },
			func(one *impl.ShareBatch) { one.Needs = append(slices.Clone(one.Needs), "zz") },
		} {
			b := ring(5)
			spoil(&b.Batches[i])
			wantOk(t, b.Batches[i].Name, impl.ShareBookOk(b), false)
		}
	}
}

func TestShareBookOkNoTwoHaveOneThing(t *testing.T) {
	for i := range 5 {
		for j := range 5 {
			b := impl.ShareBook{Things: numbered("t", 8), Batches: batchesCalled(numbered("b", 5)...)}
			for k := range b.Batches {
				b.Batches[k].Needs = b.Things
			}
			b.Batches[i].Has = texts("t0", "t3")
			b.Batches[j].Has = texts("t3", "t7")
			wantOk(t, "two have one", impl.ShareBookOk(b), i == j)
			b.Batches[j].Has = texts("t4", "t7")
			wantOk(t, "two have others", impl.ShareBookOk(b), true)
		}
	}
}

func TestShareBookOkAsTheDocumentSays(t *testing.T) {
	d := &dice{state: 20}
	seen := map[bool]int{}
	for range 20000 {
		b := d.anyBook()
		want := bookOkByForm(b)
		if impl.ShareBookOk(b) != want {
			t.Fatalf("ShareBookOk(%q) is not %v", b, want)
		}
		seen[want]++
	}
	if seen[true] < 4000 || seen[false] < 4000 {
		t.Errorf("too few of a sort: %v", seen)
	}
}

func TestShareWhoOrdinary(t *testing.T) {
	b := cellar()
	for thing, who := range map[string]string{"cask": "", "keg": "a", "tun": "d", "vat": "b"} {
		wantWho(t, b, thing, who)
	}
	for _, thing := range append(texts("jug", "a", "b", "c", "d", "ke", "kegs", "keg ", "KEG"), oddTexts...) {
		wantWho(t, b, thing, "")
		wantWho(t, impl.ShareBook{}, thing, "")
	}
	called := impl.ShareBook{Things: texts("keg", "tun"), Batches: []impl.ShareBatch{batch("keg", texts("tun"), texts("tun")), batch("tun", texts("keg"), texts("keg"))}}
	wantWho(t, called, "keg", "tun")
	wantWho(t, called, "tun", "keg")
}

func TestShareWhoOfWhatIsNotOk(t *testing.T) {
	for _, b := range booksNotOk() {
		for _, thing := range texts("cask", "keg", "tun", "vat", "jug", "") {
			wantWho(t, b, thing, "")
		}
	}
}

// Promise 13, of what a book says: each thing is had by at most one, who needs it, and ShareWho tells of that one.
func TestPromise13EachThingIsHadByOneWhoNeedsIt(t *testing.T) {
	d := &dice{state: 21}
	var had, free, not int
	for range 20000 {
		b := d.anyBook()
		for _, thing := range append(slices.Clone(b.Things), oddTexts[:8]...) {
			var who []string
			for _, one := range b.Batches {
				if slices.Contains(one.Has, thing) {
					who = append(who, one.Name)
					if impl.ShareBookOk(b) && !slices.Contains(one.Needs, thing) {
						t.Fatalf("%q is ok, though %q has %q, and does not need it", b, one.Name, thing)
					}
				}
			}
			switch {
			case !bookOkByForm(b):
				wantWho(t, b, thing, "")
				not++
			case len(who) == 0:
				wantWho(t, b, thing, "")
				free++
			default:
				wantWho(t, b, thing, who[0])
				had++
			}
			if impl.ShareBookOk(b) && len(who) > 1 {
				t.Errorf("%q is ok, though %q have %q", b, who, thing)
			}
		}
		if t.Failed() {
			return
		}
	}
	if had < 5000 || free < 5000 || not < 5000 {
		t.Errorf("too few of a sort: %d %d %d", had, free, not)
	}
}

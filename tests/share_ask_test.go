package tests

import (
	"fmt"
	"slices"
	"testing"

	"loop.example/maltrun/impl"
)

// pair is a book of two who need the same two things, the first of which the first of them has.
func pair() impl.ShareBook {
	keys := texts("keg", "tun")
	return impl.ShareBook{Things: texts("jug", "keg", "tun"), Batches: []impl.ShareBatch{batch("a", texts("keg"), keys), batch("b", nil, keys)}}
}

// full is a book with all the batches that may be, and all the things: each has one, and each needs one more, that is free.
func full() impl.ShareBook {
	b := impl.ShareBook{Things: numbered("t", 8)}
	for i, name := range numbered("b", 5) {
		b.Batches = append(b.Batches, batch(name, b.Things[i:i+1], texts(b.Things[i], b.Things[5+i%3])))
	}
	return b
}

// circle is a ring in which the last one has nothing yet, with which it is safe.
func circle(n int) impl.ShareBook {
	b := ring(n)
	b.Batches[n-1].Has = nil
	return b
}

// roomy is a ring, so it is not safe, with a thing more, which is free and which all need.
func roomy(n int) impl.ShareBook {
	b := ring(n)
	b.Things = append(slices.Clone(b.Things), "u")
	for i := range b.Batches {
		b.Batches[i].Needs = append(slices.Clone(b.Batches[i].Needs), "u")
	}
	return b
}

func TestShareEnterComesInInOrder(t *testing.T) {
	b := cellar()
	for name, place := range map[string]int{"-": 0, "0": 0, "a-": 1, "aa": 1, "abcdefgh": 1, "b0": 2, "cask": 3, "e": 4, "zzzzzzzz": 4, "keg": 4, "good": 4, "--------": 0} {
		for _, needs := range everyPart(b.Things) {
			wantBatches(t, b, call{enter, name, needs}, slices.Insert(slices.Clone(b.Batches), place, batch(name, nil, needs))...)
		}
	}
	for _, empty := range []impl.ShareBook{{}, {Things: texts("keg")}, {Things: numbered("t", 8)}} {
		wantBatches(t, empty, call{enter, "a", nil}, batch("a", nil, nil))
		wantBatches(t, empty, call{enter, "a", empty.Things}, batch("a", nil, empty.Things))
	}
}

// As many come in as may, wherever they belong; no more.
func TestShareEnterUntilAllAreThere(t *testing.T) {
	for _, order := range allOrders(texts("a", "b", "c", "d", "e")) {
		b := impl.ShareBook{Things: numbered("t", 8)}
		for i, name := range order {
			after, code := impl.ShareEnter(b, name, b.Things)
			if code != 0 || len(after.Batches) != i+1 || !impl.ShareSafe(after) {
				t.Fatalf("%q came in: %q %d", name, after, code)
			}
			b = after
		}
		if fmt.Sprint(batchNames(b)) != "[a b c d e]" {
			t.Fatalf("%q came in: %q", order, b)
		}
		for _, name := range texts("0", "aa", "f") {
			wantRefused(t, b, call{enter, name, nil}, 4)
			wantRefused(t, b, call{enter, name, b.Things}, 4)
		}
	}
}

func TestShareEnterRefused(t *testing.T) {
	for _, b := range []impl.ShareBook{{}, cellar(), full(), ring(2), ring(5), {Things: texts("keg")}} {
		for _, name := range notNames() {
			wantRefused(t, b, call{enter, name, nil}, 2)
			wantRefused(t, b, call{enter, name, b.Things}, 2)
			wantRefused(t, b, call{enter, name, texts("no-thing")}, 2)
		}
		for _, needs := range listsNotOf(b.Things) {
			for _, name := range append(texts("new", "0", ""), batchNames(b)...) {
				wantRefused(t, b, call{enter, name, needs}, 2)
			}
		}
		for _, name := range batchNames(b) {
			wantRefused(t, b, call{enter, name, nil}, 3)
			wantRefused(t, b, call{enter, name, needsOf(b, name)}, 3)
			wantRefused(t, b, call{enter, name, b.Things}, 3)
		}
	}
	wantRefused(t, full(), call{enter, "b00", nil}, 4)
	wantRefused(t, ring(5), call{enter, "new", texts("t0")}, 4)
	wantRefused(t, full(), call{enter, "b0", texts("t0")}, 3)
	wantRefused(t, full(), call{enter, "b00", texts("t8")}, 2)
	wantRefused(t, full(), call{enter, "b0", texts("t1", "t0")}, 2)
	wantRefused(t, full(), call{enter, "", texts("t8")}, 2)
}

// listsNotOf is lists that are not of a list, ascending.
func listsNotOf(list []string) [][]string {
	all := [][]string{texts("no-thing"), texts(""), texts("", ""), append(slices.Clone(list), "zzzzzzzz"), append(texts("-"), list...), make([]string, 100000)}
	for _, text := range list {
		all = append(all, texts(text, text), append(texts(text), list...), append(slices.Clone(list), text), texts(text+"0"), texts(text+"\x00"))
	}
	if len(list) > 1 {
		back := slices.Clone(list)
		slices.Reverse(back)
		all = append(all, back, texts(list[1], list[0]), texts(list[len(list)-1], list[0]))
	}
	return all
}

func TestShareAskGives(t *testing.T) {
	b := cellar()
	a := func(has ...string) []impl.ShareBatch {
		return append([]impl.ShareBatch{batch("a", has, b.Batches[0].Needs)}, b.Batches[1:]...)
	}
	wantBatches(t, b, call{ask, "a", texts("cask")}, a("cask", "keg")...)
	wantBatches(t, b, call{ask, "a", texts("cask", "keg")}, a("cask", "keg")...)
	wantBatches(t, b, call{ask, "a", texts("keg")}, b.Batches...)
	for _, name := range batchNames(b) {
		wantBatches(t, b, call{ask, name, nil}, b.Batches...)
		wantBatches(t, b, call{ask, name, hasOf(b, name)}, b.Batches...)
	}
	one := impl.ShareBook{Things: numbered("t", 8), Batches: []impl.ShareBatch{batch("a", texts("t3"), numbered("t", 8))}}
	for _, things := range everyPart(one.Things) {
		wantBatches(t, one, call{ask, "a", things}, batch("a", sorted(append(texts("t3"), things...)), one.Things))
	}
}

func TestShareAskGivesAllOrNone(t *testing.T) {
	b := cellar()
	for _, things := range [][]string{{"tun"}, {"cask", "tun"}, {"keg", "tun"}, {"cask", "keg", "tun"}} {
		wantRefused(t, b, call{ask, "a", things}, 5)
	}
	wantRefused(t, b, call{ask, "d", texts("vat")}, 5)
	wantRefused(t, b, call{ask, "d", texts("tun", "vat")}, 5)
	for n := 2; n <= 5; n++ {
		b := roomy(n)
		for i, name := range batchNames(b) {
			wantRefused(t, b, call{ask, name, b.Batches[i].Needs}, 5)
			wantRefused(t, b, call{ask, name, texts(b.Things[(i+1)%n], "u")}, 5)
			wantRefused(t, b, call{ask, name, texts(b.Things[(i+1)%n])}, 5)
		}
	}
}

func TestShareAskRefusedForTheListOrTheName(t *testing.T) {
	for _, b := range []impl.ShareBook{cellar(), pair(), full(), ring(3), circle(4), roomy(2)} {
		for _, one := range b.Batches {
			for _, things := range listsNotOf(one.Needs) {
				wantRefused(t, b, call{ask, one.Name, things}, 2)
				wantRefused(t, b, call{less, one.Name, things}, 2)
			}
			for _, thing := range b.Things {
				if !slices.Contains(one.Needs, thing) {
					wantRefused(t, b, call{ask, one.Name, texts(thing)}, 2)
					wantRefused(t, b, call{less, one.Name, texts(thing)}, 2)
				}
			}
		}
		for _, name := range append(texts("new", "0", "bb", "keg", "t0"), notNames()...) {
			for _, list := range append(listsNotOf(b.Things), everyPart(b.Things[:2])...) {
				wantRefused(t, b, call{ask, name, list}, 3)
				wantRefused(t, b, call{less, name, list}, 3)
			}
			wantRefused(t, b, call{leave, name, nil}, 3)
		}
	}
}

func TestShareAskRefusedForWhatIsNotSafe(t *testing.T) {
	b := pair()
	wantRefused(t, b, call{ask, "b", texts("tun")}, 6)
	wantRefused(t, b, call{ask, "b", texts("keg", "tun")}, 5)
	wantRefused(t, b, call{ask, "b", texts("tun", "keg")}, 2)
	wantRefused(t, b, call{ask, "b", texts("jug", "tun")}, 2)
	wantRefused(t, b, call{ask, "b", texts("tun", "tun")}, 2)
	wantRefused(t, b, call{ask, "c", texts("tun")}, 3)
	wantBatches(t, b, call{ask, "b", nil}, b.Batches...)
	wantBatches(t, b, call{ask, "a", texts("tun")}, batch("a", texts("keg", "tun"), texts("keg", "tun")), b.Batches[1])
	for n := 2; n <= 5; n++ {
		b := circle(n)
		last, name := b.Things[n-1], b.Batches[n-1].Name
		wantRefused(t, b, call{ask, name, texts(last)}, 6)
		wantRefused(t, b, call{ask, name, texts("t0")}, 5)
		wantRefused(t, b, call{ask, name, texts("t0", last)}, 5)
		wantRefused(t, b, call{ask, name, texts(last, "t0")}, 2)
		ahead := b.Batches[n-2]
		wantBatches(t, b, call{ask, ahead.Name, texts(last)}, slices.Concat(b.Batches[:n-2], []impl.ShareBatch{batch(ahead.Name, ahead.Needs, ahead.Needs)}, b.Batches[n-1:])...)
	}
}

// A book that is not safe cannot become so by what is asked: nothing is refused with 6.
func TestShareAskInABookThatIsNotSafe(t *testing.T) {
	for n := 2; n <= 5; n++ {
		b := roomy(n)
		if impl.ShareSafe(b) {
			t.Fatalf("%q is safe", b)
		}
		for i, one := range b.Batches {
			with := slices.Clone(b.Batches)
			with[i].Has = append(slices.Clone(one.Has), "u")
			wantBatches(t, b, call{ask, one.Name, texts("u")}, with...)
			wantBatches(t, b, call{ask, one.Name, with[i].Has}, with...)
			wantBatches(t, b, call{ask, one.Name, one.Has}, b.Batches...)
			wantBatches(t, b, call{ask, one.Name, nil}, b.Batches...)
		}
	}
}

func TestShareLess(t *testing.T) {
	b := cellar()
	rest := b.Batches[1:]
	for _, needs := range everyPart(texts("cask", "keg", "tun")) {
		has := texts("keg")
		if !slices.Contains(needs, "keg") {
			has = nil
		}
		wantBatches(t, b, call{less, "a", needs}, append([]impl.ShareBatch{batch("a", has, needs)}, rest...)...)
	}
	for i, one := range b.Batches {
		without := slices.Clone(b.Batches)
		without[i].Has, without[i].Needs = nil, nil
		wantBatches(t, b, call{less, one.Name, one.Needs}, b.Batches...)
		wantBatches(t, b, call{less, one.Name, nil}, without...)
		wantBatches(t, b, call{less, one.Name, texts()}, without...)
	}
	wantRefused(t, b, call{less, "a", texts("vat")}, 2)
	wantRefused(t, b, call{less, "a", texts("cask", "keg", "tun", "vat")}, 2)
	wantRefused(t, b, call{less, "b", texts("cask", "vat")}, 2)
	wantRefused(t, b, call{less, "c", texts("cask")}, 2)
	all := impl.ShareBook{Things: numbered("t", 8), Batches: []impl.ShareBatch{batch("a", numbered("t", 8), numbered("t", 8))}}
	for _, needs := range everyPart(all.Things) {
		wantBatches(t, all, call{less, "a", needs}, batch("a", needs, needs))
	}
}

// What somebody does not need any more is free for others.
func TestShareLessFreesThings(t *testing.T) {
	b := pair()
	wantRefused(t, b, call{ask, "b", texts("keg")}, 5)
	b, _ = impl.ShareLess(b, "a", texts("tun"))
	wantWho(t, b, "keg", "")
	wantBatches(t, b, call{ask, "b", texts("keg", "tun")}, batch("a", nil, texts("tun")), batch("b", texts("keg", "tun"), texts("keg", "tun")))
	b, _ = impl.ShareLess(ring(2), "b0", texts("t0"))
	wantOrder(t, b, texts("b0", "b1"), true)
}

func TestShareLeave(t *testing.T) {
	for _, b := range []impl.ShareBook{cellar(), pair(), full(), ring(2), ring(5), circle(3), roomy(4)} {
		for i, name := range batchNames(b) {
			rest := slices.Delete(slices.Clone(b.Batches), i, i+1)
			wantBatches(t, b, call{what: leave, name: name}, rest...)
			after, _ := impl.ShareLeave(b, name)
			for _, thing := range hasOf(b, name) {
				wantWho(t, after, thing, "")
			}
			wantRefused(t, after, call{what: leave, name: name}, 3)
		}
	}
	for _, alone := range []impl.ShareBatch{batch("a", nil, nil), batch("a", nil, texts("keg")), batch("a", texts("keg"), texts("keg"))} {
		b := impl.ShareBook{Things: texts("keg"), Batches: []impl.ShareBatch{alone}}
		wantBatches(t, b, call{what: leave, name: "a"})
		wantRefused(t, b, call{what: leave, name: "b"}, 3)
	}
	wantRefused(t, impl.ShareBook{}, call{what: leave, name: "a"}, 3)
	wantRefused(t, impl.ShareBook{}, call{what: leave, name: ""}, 3)
}

// A book that is not ok is refused ahead of all else, and nothing is left of it.
func TestShareAskingOfWhatIsNotOk(t *testing.T) {
	for _, b := range booksNotOk() {
		names := texts("a", "b", "c", "d", "new", "", "no name")
		for _, name := range append(names, batchNames(b)[:min(3, len(b.Batches))]...) {
			for _, list := range [][]string{nil, {"cask"}, {"keg"}, {"vat"}, {"no-thing"}, {"tun", "keg"}, {"", ""}} {
				for _, what := range theFour {
					wantRefused(t, b, call{what, name, list}, 1)
				}
			}
		}
	}
}

// wantPairs has, of each of the four, which codes may both do, the one that is listed first ahead.
var wantPairs = map[string][][2]int{
	enter: {{1, 2}, {1, 3}, {1, 4}, {2, 3}, {2, 4}, {3, 4}},
	ask:   {{1, 3}, {1, 2}, {1, 5}, {3, 2}, {3, 5}, {2, 5}, {2, 6}, {5, 6}},
	less:  {{1, 3}, {1, 2}, {3, 2}},
	leave: {{1, 3}},
}

// Of several codes that would do the first that the document lists is told.
func TestShareCodesInTheirOrder(t *testing.T) {
	d := &dice{state: 26}
	seen := map[string]map[[2]int]int{enter: {}, ask: {}, less: {}, leave: {}}
	for range 30000 {
		b := d.anyBook()
		c := d.anyCall(b)
		codes := c.codesByForm(b)
		for i := 1; i < len(codes); i++ {
			seen[c.what][[2]int{codes[0], codes[i]}]++
		}
		wantAsSaid(t, b, c)
	}
	for what, pairs := range wantPairs {
		for _, two := range pairs {
			if seen[what][two] < 20 {
				t.Errorf("%s: codes %v both would do only %d times", what, two, seen[what][two])
			}
		}
		if len(seen[what]) != len(pairs) {
			t.Errorf("%s: these codes both would do: %v", what, seen[what])
		}
	}
}

// asked are the sizes of the books, all of which are asked all that can be asked.
var asked = [][2]int{{0, 0}, {0, 3}, {1, 1}, {2, 2}, {3, 2}, {2, 3}, {1, 5}}

// eachAsked hands out calls in books that are ok: in each small one, in ones made by chance, and in ones that the four have
// led to from one with things alone; led says which these are.
func eachAsked(d *dice, each func(led bool, b impl.ShareBook, c call)) {
	for _, size := range asked {
		for _, b := range everyBook(size[0], size[1]) {
			for _, c := range everyCall(b) {
				each(false, b, c)
			}
		}
	}
	for range 8000 {
		b := d.okBook(d.below(9), d.below(6))
		each(false, b, d.anyCall(b))
		each(false, b, d.likelyCall(b))
		tight := d.tightBook(d.below(9), d.below(6))
		each(false, tight, d.likelyCall(tight))
	}
	for i := range 300 {
		d.walk(i%9, 40, func(b impl.ShareBook, c call) { each(true, b, c) })
	}
}

func TestShareAskingAsTheDocumentSays(t *testing.T) {
	seen := map[string]int{}
	eachAsked(&dice{state: 27}, func(led bool, b impl.ShareBook, c call) {
		_, code := wantAsSaid(t, b, c)
		seen[fmt.Sprint(c.what, " ", code, " ", led)]++
	})
	for what, codes := range map[string][]int{enter: {0, 2, 3, 4}, ask: {0, 2, 3, 5, 6}, less: {0, 2, 3}, leave: {0, 3}} {
		for _, code := range codes {
			for _, led := range []bool{false, true} {
				if said := fmt.Sprint(what, " ", code, " ", led); seen[said] < 20 {
					t.Errorf("%s only %d times", said, seen[said])
				}
			}
		}
	}
}

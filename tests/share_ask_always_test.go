package tests

import (
	"fmt"
	"slices"
	"testing"

	"loop.example/maltrun/impl"
)

// Each function answers at every argument, the same when asked again, and writes into none.
func TestShareAskingAnswersAtEveryArgument(t *testing.T) {
	d := &dice{state: 31}
	seen := map[int]int{}
	for range 20000 {
		b := guardedBook(d.anyBook())
		if d.below(4) == 0 {
			b = guardedBook(d.tightBook(d.below(9), d.below(6)))
		}
		c := d.anyCall(b)
		c.list = guardedTexts(c.list)
		kept, keptList := wholeBook(b), slices.Clone(c.list[:cap(c.list)])
		after, code := wantAsSaid(t, b, c)
		again, codeAgain := c.do(b)
		if code != codeAgain || fmt.Sprintf("%q", after) != fmt.Sprintf("%q", again) {
			t.Fatalf("%v: told %q %d, and then %q %d", c, after, code, again, codeAgain)
		}
		if now := wholeBook(b); now != kept || !slices.Equal(c.list[:cap(c.list)], keptList) {
			t.Fatalf("%v: an argument was written into: %s %q, was %s %q", c, now, c.list[:cap(c.list)], kept, keptList)
		}
		seen[code]++
	}
	for code := range 7 {
		if seen[code] < 50 {
			t.Errorf("code %d only %d times", code, seen[code])
		}
	}
}

// listsOf is all lists of texts of a book, with their spare room, those of batches in the spare room of Batches among them.
func listsOf(b impl.ShareBook) [][]string {
	lists := [][]string{b.Things[:cap(b.Things)]}
	for _, one := range b.Batches[:cap(b.Batches)] {
		lists = append(lists, one.Has[:cap(one.Has)], one.Needs[:cap(one.Needs)])
	}
	return lists
}

// scribbleBook writes all over the lists of a book, into each its own text, and says whether no two of them share memory.
func scribbleBook(b impl.ShareBook) bool {
	lists := listsOf(b)
	for i, list := range lists {
		for j := range list {
			list[j] = fmt.Sprint("scribble", i)
		}
	}
	for i, list := range lists {
		for _, text := range list {
			if text != fmt.Sprint("scribble", i) {
				return false
			}
		}
	}
	all := b.Batches[:cap(b.Batches)]
	for i := range all {
		all[i] = batch("scribble", texts("scribble"), nil)
	}
	return true
}

// wantNewMemory: what a call answers shares no memory with its arguments, with what it answered ahead, or within itself.
func wantNewMemory(t *testing.T, b impl.ShareBook, c call) int {
	t.Helper()
	kept, keptList := wholeBook(b), slices.Clone(c.list[:cap(c.list)])
	one, code := c.do(b)
	other, _ := c.do(b)
	before := fmt.Sprintf("%q", one)
	if !scribbleBook(other) {
		t.Fatalf("%s: %v: two lists of one answer share memory", kept, c)
	}
	if after := fmt.Sprintf("%q", one); after != before {
		t.Fatalf("%s: %v: two answers share memory: %s, was %s", kept, c, after, before)
	}
	scribbleBook(one)
	if wholeBook(b) != kept || !slices.Equal(c.list[:cap(c.list)], keptList) {
		t.Fatalf("%s: %v: an answer shares memory with an argument", kept, c)
	}
	if again, _ := c.do(b); fmt.Sprintf("%q", again) != before {
		t.Fatalf("%s: %v: an answer is kept from call to call: %q, was %s", kept, c, again, before)
	}
	return code
}

func TestShareAskingIsNewMemory(t *testing.T) {
	d := &dice{state: 32}
	seen := map[string]int{}
	for range 20000 {
		b := guardedBook(d.okBook(d.below(9), d.below(6)))
		if d.below(2) == 0 {
			b = guardedBook(d.tightBook(d.below(9), d.below(6)))
		}
		c := d.anyCall(b)
		switch d.below(6) {
		case 0: // what is asked for may be a list of the book itself
			c.list = b.Things
		case 1:
			c.list = needsOf(b, c.name)
		case 2:
			c.list = hasOf(b, c.name)
		default:
			c.list = guardedTexts(c.list)
		}
		seen[fmt.Sprint(c.what, " ", wantNewMemory(t, b, c))]++
	}
	for what, codes := range map[string][]int{enter: {0, 2, 3, 4}, ask: {0, 2, 3, 5, 6}, less: {0, 2, 3}, leave: {0, 3}} {
		for _, code := range codes {
			if said := fmt.Sprint(what, " ", code); seen[said] < 20 {
				t.Errorf("%s only %d times", said, seen[said])
			}
		}
	}
}

// Lists of the arguments that are the same memory are as good as others; the answer's are its own.
func TestShareAskingWithListsThatAreTheSameMemory(t *testing.T) {
	names := texts("a", "b", "c", "d")
	b := impl.ShareBook{Things: names, Batches: []impl.ShareBatch{batch("a", names[:1], names), batch("b", names[1:2], names[1:]), batch("c", names[2:2], names[2:])}}
	for _, what := range theFour {
		for _, name := range texts("a", "b", "c", "d", "e") {
			for from := range 5 {
				for to := from; to <= 4; to++ {
					c := call{what, name, names[from:to]}
					wantAsSaid(t, b, c)
					wantNewMemory(t, b, c)
				}
			}
		}
	}
}

// The four functions as README.md has them.
func TestShareAskingOfTheExample(t *testing.T) {
	b := impl.ShareBook{Things: texts("keg", "tun", "vat")}
	for i, step := range []struct {
		call
		code int
		left string
	}{
		{call{enter, "a", texts("keg", "tun")}, 0, "[{a [] [keg tun]}]"},
		{call{enter, "b", texts("keg", "tun")}, 0, "[{a [] [keg tun]} {b [] [keg tun]}]"},
		{call{ask, "a", texts("keg")}, 0, "[{a [keg] [keg tun]} {b [] [keg tun]}]"},
		{call{ask, "b", texts("tun")}, 6, "[{a [keg] [keg tun]} {b [] [keg tun]}]"},
		{call{ask, "a", texts("keg", "tun")}, 0, "[{a [keg tun] [keg tun]} {b [] [keg tun]}]"},
		{call{ask, "b", texts("tun")}, 5, "[{a [keg tun] [keg tun]} {b [] [keg tun]}]"},
		{call{less, "a", texts("keg")}, 0, "[{a [keg] [keg]} {b [] [keg tun]}]"},
		{call{ask, "b", texts("tun")}, 0, "[{a [keg] [keg]} {b [tun] [keg tun]}]"},
		{call{leave, "a", nil}, 0, "[{b [tun] [keg tun]}]"},
	} {
		after, code := step.do(b)
		if left := fmt.Sprint(after.Batches); code != step.code || left != step.left {
			t.Fatalf("step %d: %s %d, should be %s %d", i, left, code, step.left, step.code)
		}
		b = after
	}
}

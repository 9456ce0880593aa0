package tests

import (
	"fmt"
	"slices"
	"testing"

	"loop.example/maltrun/impl"
)

// guardedTexts is a list with texts behind its end, which no call may read or write.
func guardedTexts(list []string) []string {
	return append(slices.Clone(list), "behind", "behind", "behind")[:len(list)]
}

// guardedBook is a book all of whose lists have more behind their ends.
func guardedBook(b impl.ShareBook) impl.ShareBook {
	g := impl.ShareBook{Things: guardedTexts(b.Things)}
	for _, one := range b.Batches {
		g.Batches = append(g.Batches, batch(one.Name, guardedTexts(one.Has), guardedTexts(one.Needs)))
	}
	behind := batch("behind", texts("behind"), texts("behind"))
	g.Batches = append(g.Batches, behind, behind)[:len(b.Batches)]
	return g
}

// wholeBook tells all that a book holds, and what is behind the ends of its lists.
func wholeBook(b impl.ShareBook) string {
	told := fmt.Sprintf("%q", b.Things[:cap(b.Things)])
	for _, one := range b.Batches[:cap(b.Batches)] {
		told += fmt.Sprintf(" %q %q %q", one.Name, one.Has[:cap(one.Has)], one.Needs[:cap(one.Needs)])
	}
	return told
}

// toldOfBook asks each function of chapters 11 and 12, and answers with all they told.
func toldOfBook(b impl.ShareBook, thing string, order []string) string {
	first, ok := impl.ShareOrder(b)
	return fmt.Sprintf("%v %q %v %q %v %v", impl.ShareBookOk(b), impl.ShareWho(b, thing), impl.ShareFits(b, order), first, ok, impl.ShareSafe(b))
}

// Each function answers at every argument, the same when asked again, and writes into none.
func TestShareAnswersAtEveryArgument(t *testing.T) {
	d := &dice{state: 24}
	for range 20000 {
		b := guardedBook(d.anyBook())
		order := guardedTexts(d.anyOrder(b))
		thing := pick(d, append(slices.Clone(b.Things), oddTexts...))
		kept, keptOrder := wholeBook(b), slices.Clone(order[:cap(order)])
		first := toldOfBook(b, thing, order)
		if again := toldOfBook(b, thing, order); again != first {
			t.Fatalf("told %s, and then %s", first, again)
		}
		if now := wholeBook(b); now != kept || !slices.Equal(order[:cap(order)], keptOrder) {
			t.Fatalf("an argument was written into: %s %q, was %s %q", now, order[:cap(order)], kept, keptOrder)
		}
		wantOrderOfAny(t, b)
	}
}

// wantOrderOfAny: beside a false ShareOrder tells nothing; and it is as all orders say, whether the book is ok or not.
func wantOrderOfAny(t *testing.T, b impl.ShareBook) {
	t.Helper()
	want, ok := orderByForm(b)
	wantOrder(t, b, want, ok)
	if t.Failed() {
		t.FailNow()
	}
}

// What stands behind the end of a list is not of it.
func TestShareReadsNothingBehindAnEnd(t *testing.T) {
	both := texts("keg", "tun")
	b := impl.ShareBook{Things: both, Batches: []impl.ShareBatch{batch("a", texts("keg", "tun")[:1], both), batch("b", both[1:], both)}}
	wantOrder(t, b, nil, false)
	b.Batches[1].Has = both[1:][:0]
	wantOrder(t, b, texts("a", "b"), true)
	wantWho(t, b, "tun", "")
	b.Batches[0].Needs = texts("keg", "no thing")[:1]
	wantOk(t, "a need behind the end", impl.ShareBookOk(b), true)
	b.Things = append(texts("keg", "tun"), "no thing")[:2]
	wantOk(t, "a thing behind the end", impl.ShareBookOk(b), true)
	b.Batches = append(b.Batches, batch("a", both, both))[:2]
	wantOk(t, "a batch behind the end", impl.ShareBookOk(b), true)
}

// Lists of one argument that are the same memory are as good as others.
func TestShareListsThatAreTheSameMemory(t *testing.T) {
	names := texts("a", "b", "c")
	b := impl.ShareBook{Things: names, Batches: []impl.ShareBatch{batch("a", names[:1], names), batch("b", names[1:2], names[1:]), batch("c", names[2:], names[2:])}}
	kept := slices.Clone(names)
	wantOrder(t, b, texts("c", "b", "a"), true)
	wantFits(t, b, false, names...)
	wantWho(t, b, "b", "b")
	if !slices.Equal(names, kept) {
		t.Errorf("an argument was written into: %q", names)
	}
}

func TestShareOrderIsNewMemory(t *testing.T) {
	d := &dice{state: 25}
	long := 0
	for range 2000 {
		b := guardedBook(d.okBook(d.below(9), d.below(6)))
		kept := wholeBook(b)
		one, _ := impl.ShareOrder(b)
		other, _ := impl.ShareOrder(b)
		before := fmt.Sprintf("%q", one)
		long = max(long, len(one))
		scribble(other)
		if after := fmt.Sprintf("%q", one); after != before {
			t.Fatalf("two answers share memory: %s, was %s", after, before)
		}
		scribble(one)
		if again, _ := impl.ShareOrder(b); fmt.Sprintf("%q", again) != before {
			t.Fatalf("an answer is kept from call to call: %q, was %s", again, before)
		}
		if wholeBook(b) != kept {
			t.Fatal("an answer shares memory with an argument")
		}
	}
	if long != 5 {
		t.Errorf("the longest order has %d batches", long)
	}
}

// The five functions as README.md has them.
func TestShareOfTheExample(t *testing.T) {
	b := impl.ShareBook{Things: texts("keg", "tun", "vat"), Batches: []impl.ShareBatch{
		{Name: "a", Has: texts("keg"), Needs: texts("keg", "tun")},
		{Name: "b", Has: texts("tun"), Needs: texts("tun", "vat")},
	}}
	wantOk(t, "the example", impl.ShareBookOk(b), true)
	wantWho(t, b, "tun", "b")
	wantWho(t, b, "vat", "")
	wantFits(t, b, false, "a", "b")
	wantOrder(t, b, texts("b", "a"), true)
}

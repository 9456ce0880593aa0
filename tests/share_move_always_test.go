package tests

import (
	"fmt"
	"runtime"
	"slices"
	"sync"
	"testing"
	"time"

	"loop.example/maltrun/impl"
)

// toldOfMoves asks each function of chapter 14, and answers with all they told.
func toldOfMoves(b impl.ShareBook, name string) string {
	return fmt.Sprintf("%q %v %q", impl.ShareMoves(b), impl.ShareStuck(b), impl.ShareWaits(b, name))
}

// oddBook makes a book of any sort, mostly one that is ok.
func (d *dice) oddBook() impl.ShareBook {
	switch d.below(4) {
	case 0:
		return d.knotBook()
	case 1:
		return d.crowdedBook(d.below(9), d.below(6))
	default:
		return d.anyBook()
	}
}

// Each function answers at every argument, the same when asked again, and writes into none.
func TestShareMovesAnswersAtEveryArgument(t *testing.T) {
	d := &dice{state: 38}
	ok, not := 0, 0
	for range 20000 {
		b := guardedBook(d.oddBook())
		name := pick(d, append(batchNames(b), oddTexts...))
		kept := wholeBook(b)
		first := toldOfMoves(b, name)
		if again := toldOfMoves(b, name); again != first {
			t.Fatalf("told %s, and then %s", first, again)
		}
		wantMovesAsSaid(t, b, name)
		if now := wholeBook(b); now != kept {
			t.Fatalf("an argument was written into: %s, was %s", now, kept)
		}
		if bookOkByForm(b) {
			ok++
		} else {
			not++
		}
	}
	if ok < 2000 || not < 2000 {
		t.Errorf("too few of a sort: %d %d", ok, not)
	}
}

// What stands behind the end of a list is not of it.
func TestShareMovesReadsNothingBehindAnEnd(t *testing.T) {
	keys := texts("keg", "tun")
	b := impl.ShareBook{Things: keys, Batches: []impl.ShareBatch{batch("a", texts("keg", "tun")[:1], texts("keg", "tun")[:1]), batch("b", keys[1:], keys[1:])}}
	wantMoves(t, b, false, "a", "b")
	wantWaits(t, b, "a")
	b.Batches[1].Has, b.Batches[1].Needs = keys[:0], keys
	wantMoves(t, b, false, "a")
	wantWaits(t, b, "b", "a")
	b.Batches = append(b.Batches, batch("c", keys[1:], keys[1:]))[:2]
	wantMoves(t, b, false, "a")
	wantWaits(t, b, "c")
}

// Lists of one argument that are the same memory are as good as others.
func TestShareMovesWithListsThatAreTheSameMemory(t *testing.T) {
	names := texts("a", "b", "c")
	b := impl.ShareBook{Things: names, Batches: []impl.ShareBatch{batch("a", names[:1], names), batch("b", names[1:2], names[1:]), batch("c", names[2:], names[2:])}}
	kept := slices.Clone(names)
	wantMoves(t, b, false, "c")
	wantWaits(t, b, "a", "b", "c")
	wantWaits(t, b, "b", "c")
	wantWaits(t, b, "c")
	if !slices.Equal(names, kept) {
		t.Errorf("an argument was written into: %q", names)
	}
}

// movesAndWaits is what ShareMoves answers, and then what ShareWaits does of each batch.
func movesAndWaits(b impl.ShareBook) [][]string {
	lists := [][]string{impl.ShareMoves(b)}
	for _, name := range batchNames(b) {
		lists = append(lists, impl.ShareWaits(b, name))
	}
	return lists
}

func TestShareMovesIsNewMemory(t *testing.T) {
	d := &dice{state: 39}
	moves, waits := 0, 0
	for range 4000 {
		b := guardedBook(d.oddBook())
		kept := wholeBook(b)
		before := fmt.Sprintf("%q", movesAndWaits(b))
		lists := slices.Concat(movesAndWaits(b), movesAndWaits(b))
		moves = max(moves, len(lists[0]))
		for i, list := range lists {
			rest := fmt.Sprintf("%q", lists[i+1:])
			scribble(list)
			if now := fmt.Sprintf("%q", lists[i+1:]); now != rest {
				t.Fatalf("two answers share memory: %s, was %s", now, rest)
			}
			if i%(len(lists)/2) > 0 {
				waits = max(waits, len(list))
			}
		}
		if wholeBook(b) != kept {
			t.Fatalf("an answer shares memory with an argument: %s, was %s", wholeBook(b), kept)
		}
		if again := fmt.Sprintf("%q", movesAndWaits(b)); again != before {
			t.Fatalf("an answer is kept from call to call: %s, was %s", again, before)
		}
	}
	if moves != 5 || waits < 3 {
		t.Errorf("at most %d move, and one waits on %d", moves, waits)
	}
}

// However the goroutines of a call run, one at a time or several, the answer is the same.
func TestShareMovesHoweverGoroutinesRun(t *testing.T) {
	books := []impl.ShareBook{cellar(), full(), ring(5), line(5), roomy(4), circle(3)}
	defer runtime.GOMAXPROCS(runtime.GOMAXPROCS(0))
	for _, at := range []int{1, 2, 8} {
		runtime.GOMAXPROCS(at)
		for range 300 {
			for _, b := range books {
				wantMovesAsSaid(t, b, "a", "b", "new")
			}
		}
	}
}

// Calls at the same time, of one book, do not stand in each other's way.
func TestShareMovesAtTheSameTime(t *testing.T) {
	b := cellar()
	want := toldOfMoves(b, "a")
	told := make([]string, 200)
	var all sync.WaitGroup
	for i := range told {
		all.Go(func() { told[i] = toldOfMoves(b, "a") })
	}
	all.Wait()
	for _, one := range told {
		if one != want {
			t.Fatalf("told %s, alone %s", one, want)
		}
	}
}

// No call leaves a goroutine behind.
func TestShareMovesLeavesNoGoroutine(t *testing.T) {
	first := runtime.NumGoroutine()
	for range 200 {
		for _, b := range []impl.ShareBook{{}, cellar(), full(), ring(5), {Things: texts("no name")}} {
			toldOfMoves(b, "a")
			toldOfMoves(b, "b0")
		}
	}
	for range 2000 {
		if runtime.NumGoroutine() <= first {
			return
		}
		time.Sleep(time.Millisecond)
	}
	t.Errorf("%d goroutines are left, there were %d", runtime.NumGoroutine(), first)
}

// The three functions as README.md has them.
func TestShareMovesOfTheExample(t *testing.T) {
	b := impl.ShareBook{Things: texts("keg", "tun", "vat"), Batches: []impl.ShareBatch{
		{Name: "a", Has: texts("keg"), Needs: texts("keg", "tun")},
		{Name: "b", Has: texts("tun"), Needs: texts("tun", "vat")},
	}}
	wantMoves(t, b, false, "b")
	wantWaits(t, b, "a", "b")
	wantWaits(t, b, "b")
	b.Batches[1].Needs = texts("keg", "tun")
	wantMoves(t, b, true)
	wantWaits(t, b, "b", "a")
}

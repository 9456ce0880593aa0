package tests

import (
	"runtime"
	"sync"
	"testing"
	"time"

	"loop.example/maltrun/impl"
)

// RunBoard answers at every house, the same when asked again, and writes into none.
func TestRunBoardAtEveryArgument(t *testing.T) {
	d := &dice{state: 73}
	empty, told := 0, 0
	for range 6000 {
		h := guardedHouse(d.someHouse())
		kept := wholeHouse(h)
		board := wantBoardAsSaid(t, h)
		if again := impl.RunBoard(h); again != board {
			t.Fatalf("%s: told %q, and then %q", short(h), board, again)
		}
		if now := wholeHouse(h); now != kept {
			t.Fatalf("an argument was written into: %s, was %s", now, kept)
		}
		if board == "" {
			empty++
		} else {
			told++
		}
	}
	if empty < 500 || told < 500 {
		t.Errorf("too few of a sort: %d %d", empty, told)
	}
}

// What is told stays as it was, whatever becomes of the house.
func TestRunBoardIsNewMemory(t *testing.T) {
	h := guardedHouse(house(nil))
	board := impl.RunBoard(h)
	scribbleHouse(h)
	if board != boardByForm(house(nil)) {
		t.Errorf("told %q", board)
	}
	wantBoard(t, "scribbled over", h)
}

// What stands behind the end of a list is not of it.
func TestRunBoardReadsNothingBehindAnEnd(t *testing.T) {
	h := guardedHouse(led(t, texts("keg", "tun"), begins(uses("b", "keg")), begins(uses("c", "keg")), begins(uses("a", "tun")), goesWell("a")))
	h.Batches = append(h.Batches, sinceOf(withStart(uses("d", "tun"), 4), 0))[:2]
	h.Share.Batches[0].Has = texts("keg", "tun")[:1]
	h.Dones = append(h.Dones, impl.RunDone{Name: "d", End: 1})[:1]
	wantBoard(t, "more behind the ends", h, "now 0 left 4", "b p0 for 0 keg", "c p0 waits", "a good at 0")
}

// Lists of the argument that are the same memory are as good as others.
func TestRunBoardWithListsThatAreTheSameMemory(t *testing.T) {
	r, slots, names := pour(), slotted("s1", "keg", "s2", "tun"), texts("keg", "tun")
	one := impl.RunBatch{Name: "b", Recipe: r, Slots: slots, At: "go", Since: 2, Start: 1}
	other := impl.RunBatch{Name: "a", Recipe: r, Slots: slots, At: "fill", Since: -1, Start: 2}
	h := impl.RunHouse{Last: 2, Share: impl.ShareBook{Things: names, Batches: []impl.ShareBatch{batch("a", names[:0], names), batch("b", names, names)}}, Batches: []impl.RunBatch{one, other}}
	kept := wholeHouse(h)
	wantBoard(t, "the same memory", h, "now 0 left 9", "b go for 2 keg tun", "a fill waits")
	if now := wholeHouse(h); now != kept {
		t.Errorf("an argument was written into: %s, was %s", now, kept)
	}
}

// boardHouses is houses with different numbers of batches, and one that is not ok.
func boardHouses(t *testing.T) []impl.RunHouse {
	return []impl.RunHouse{
		{},
		house(nil),
		bad(),
		led(t, numbered("t", 5), append(crowd(0), ticks())...),
		led(t, numbered("t", 5), crowd(1)...),
		led(t, texts("keg", "tun"), pours("b", "tun", "keg"), pours("a", "keg", "tun"), begins(uses("0", "tun")), ticks(), goesBadly("b")),
	}
}

// However the goroutines of a call run, one at a time or several, and in whatever order, the board is the same.
func TestRunBoardHoweverGoroutinesRun(t *testing.T) {
	houses := boardHouses(t)
	defer runtime.GOMAXPROCS(runtime.GOMAXPROCS(0))
	for _, at := range []int{1, 2, 8} {
		runtime.GOMAXPROCS(at)
		for range 300 {
			for _, h := range houses {
				wantBoardAsSaid(t, h)
			}
		}
	}
}

// Calls at the same time, of one house, do not stand in each other's way.
func TestRunBoardAtTheSameTime(t *testing.T) {
	houses := boardHouses(t)
	told := make([]string, 600)
	var all sync.WaitGroup
	for i := range told {
		all.Go(func() { told[i] = impl.RunBoard(houses[i%len(houses)]) })
	}
	all.Wait()
	for i, board := range told {
		if want := boardByForm(houses[i%len(houses)]); board != want {
			t.Fatalf("told %q, should be %q", board, want)
		}
	}
}

// No call leaves a goroutine behind.
func TestRunBoardLeavesNoGoroutine(t *testing.T) {
	houses := boardHouses(t)
	first := runtime.NumGoroutine()
	for range 200 {
		for _, h := range houses {
			impl.RunBoard(h)
		}
	}
	for range 2000 {
		if runtime.NumGoroutine() <= first {
			return
		}
		time.Sleep(time.Millisecond)
	}
	t.Errorf("%d goroutines are left, there were %d", runtime.NumGoroutine(), first)
}

package tests

import (
	"fmt"
	"math"
	"slices"
	"sync"
	"testing"

	"loop.example/maltrun/impl"
)

// wantGoes: in a house just these go on, by their places.
func wantGoes(t *testing.T, what string, h impl.RunHouse, names ...string) {
	t.Helper()
	if goes := impl.RunGoes(h); !slices.Equal(goes, names) {
		t.Errorf("%s: RunGoes(%s) is %q, should be %q", what, short(h), goes, names)
	}
}

// wantGoesAsSaid holds what RunGoes answers against the document's words.
func wantGoesAsSaid(t *testing.T, h impl.RunHouse) {
	t.Helper()
	var want []string
	if len(houseFaults(h)) == 0 {
		want = goers(h)
	}
	wantGoes(t, "as said", h, want...)
	if t.Failed() {
		t.FailNow()
	}
}

// They are told in the order in which they began, not by their names.
func TestRunGoesOrdinary(t *testing.T) {
	wantGoes(t, "one waits between two", house(nil), "b", "c")
	wantGoes(t, "for 0 ticks", housing(texts("keg"), [][]string{{"keg"}}, sinceOf(uses("a", "keg"), 0)), "a")
	wantGoes(t, "for all but one", housing(texts("keg"), [][]string{{"keg"}}, sinceOf(uses("a", "keg"), 1)), "a")
	wantGoes(t, "all of five", led(t, numbered("t", 5), crowd(0)...), "b5", "b4", "b3", "b2", "b1")
	h := led(t, texts("keg", "tun"), begins(uses("z", "keg")), begins(uses("m", "keg")), begins(uses("a", "tun")), begins(uses("k", "keg")))
	wantGoes(t, "two wait", h, "z", "a")
	h, _ = impl.RunSay(h, "z", true)
	wantGoes(t, "one waits", h, "m", "a")
	h, _ = impl.RunSay(h, "a", true)
	wantGoes(t, "one goes on", h, "m")
	h, _ = impl.RunSay(h, "m", false)
	wantGoes(t, "the last one", h, "k")
	h, _ = impl.RunSay(h, "k", true)
	wantGoes(t, "all have ended", h)
}

func sinceOf(b impl.RunBatch, since int) impl.RunBatch {
	b.Since = since
	return b
}

// With nobody there nobody goes on, whoever has ended.
func TestRunGoesOfNobody(t *testing.T) {
	wantGoes(t, "nothing at all", impl.RunHouse{})
	wantGoes(t, "things alone", nobody("keg", "tun"))
	h := nobody("keg")
	h.Now, h.Last, h.Dones = 100000, 1000000, endings(20, 40)
	wantGoes(t, "all have ended", h)
}

// A house that is ok, and that no call has led to, may have all of its batches waiting, also those that have what they need.
func TestRunGoesWhereAllWait(t *testing.T) {
	waiting := []impl.RunBatch{withStart(uses("b", "keg"), 1), withStart(uses("a", "tun"), 2)}
	for _, has := range [][][]string{{nil, nil}, {{"keg"}, nil}, {{"keg"}, {"tun"}}} {
		h := housing(texts("keg", "tun"), has, waiting...)
		wantHouse(t, "all wait", h, 4)
		wantGoes(t, "all wait", h)
	}
}

// breaks is changes of the house, each of which makes it one that is not ok.
func breaks() []func(h *impl.RunHouse) {
	return []func(h *impl.RunHouse){
		func(h *impl.RunHouse) { h.Now = -1 },
		func(h *impl.RunHouse) { h.Now = 100001 },
		func(h *impl.RunHouse) { h.Last = 6 },
		func(h *impl.RunHouse) { h.Last = 1000001 },
		func(h *impl.RunHouse) { h.Share.Things = h.Share.Things[1:] },
		func(h *impl.RunHouse) { h.Share.Batches[1].Has = nil },
		func(h *impl.RunHouse) { h.Share.Batches[0].Needs = texts("keg") },
		func(h *impl.RunHouse) { h.Share.Batches = h.Share.Batches[1:] },
		func(h *impl.RunHouse) { h.Share.Batches[0].Has = texts("tun") },
		func(h *impl.RunHouse) { h.Batches = h.Batches[:2] },
		func(h *impl.RunHouse) { h.Batches[0], h.Batches[1] = h.Batches[1], h.Batches[0] },
		func(h *impl.RunHouse) { h.Batches[1].Since = 0 },
		func(h *impl.RunHouse) { h.Batches[1].Since = -2 },
		func(h *impl.RunHouse) { h.Batches[2].Since = 10 },
		func(h *impl.RunHouse) { h.Batches[2].Since = math.MaxInt },
		func(h *impl.RunHouse) { h.Batches[2].Name = "B" },
		func(h *impl.RunHouse) { h.Batches[2].At = "good" },
		func(h *impl.RunHouse) { h.Dones[0].End = 0 },
		func(h *impl.RunHouse) { h.Dones[0].End = 4 },
		func(h *impl.RunHouse) { h.Dones[2].Tick = 41 },
		func(h *impl.RunHouse) { h.Dones = endings(21, 40) },
	}
}

func veryMany(h *impl.RunHouse) {
	h.Batches = very(200000, h.Batches[0])
}

// Of a house that is not ok nothing is told, whatever it is that is broken.
func TestRunGoesOfAHouseThatIsNotOk(t *testing.T) {
	for i, change := range breaks() {
		if len(houseFaults(house(change))) == 0 {
			t.Errorf("%d is ok", i)
		}
		wantGoes(t, fmt.Sprint("broken ", i), house(change))
	}
	wantGoes(t, "very many", house(veryMany))
}

// RunGoes answers at every house, the same when asked again, writes into none, and answers with new memory.
func TestRunGoesAtEveryArgument(t *testing.T) {
	d := &dice{state: 64}
	many := [6]int{}
	for range 5000 {
		h := guardedHouse(d.someHouse())
		kept := wholeHouse(h)
		wantGoesAsSaid(t, h)
		one, other := impl.RunGoes(h), impl.RunGoes(h)
		many[len(one)]++
		told := fmt.Sprint(other[:cap(other)])
		scribble(one)
		if now := fmt.Sprint(other[:cap(other)]); now != told {
			t.Fatalf("two answers share memory: %s, was %s", now, told)
		}
		scribble(other)
		if now := wholeHouse(h); now != kept {
			t.Fatalf("an argument was written into: %s, was %s", now, kept)
		}
		wantGoesAsSaid(t, h)
	}
	if slices.Min(many[:5]) < 20 {
		t.Errorf("too few of a sort: %v", many)
	}
}

// What stands behind the end of a list is not of it.
func TestRunGoesReadsNothingBehindAnEnd(t *testing.T) {
	h := led(t, texts("keg", "tun"), begins(uses("b", "keg")), begins(uses("a", "tun")))
	behind := sinceOf(withStart(uses("c", "keg"), 3), 0)
	h.Batches = append(slices.Clone(h.Batches), behind)[:2]
	wantGoes(t, "one behind the end", h, "b", "a")
}

// Calls at the same time, of one house, do not stand in each other's way.
func TestRunGoesAtTheSameTime(t *testing.T) {
	h := house(nil)
	told := make([][]string, 200)
	var all sync.WaitGroup
	for i := range told {
		all.Go(func() { told[i] = impl.RunGoes(h) })
	}
	all.Wait()
	for _, one := range told {
		if !slices.Equal(one, texts("b", "c")) {
			t.Fatalf("told %q", one)
		}
	}
}

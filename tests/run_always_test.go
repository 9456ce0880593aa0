package tests

import (
	"fmt"
	"math"
	"slices"
	"strings"
	"sync"
	"testing"

	"loop.example/maltrun/impl"
)

// guardedBatch is a batch all of whose lists have more behind their ends, which no call may read or write.
func guardedBatch(b impl.RunBatch) impl.RunBatch {
	behind := impl.RunSlot{Slot: "behind", Thing: "behind"}
	b.Recipe = guarded(b.Recipe)
	b.Slots = append(slices.Clone(b.Slots), behind, behind, behind)[:len(b.Slots)]
	return b
}

// guardedHouse is a house all of whose lists have more behind their ends.
func guardedHouse(h impl.RunHouse) impl.RunHouse {
	g := h
	g.Share = guardedBook(h.Share)
	g.Batches = nil
	for _, b := range h.Batches {
		g.Batches = append(g.Batches, guardedBatch(b))
	}
	behind := impl.RunBatch{Name: "behind", Recipe: brew(), Slots: slotted("behind", "behind")}
	g.Batches = append(g.Batches, behind, behind)[:len(h.Batches)]
	done := impl.RunDone{Name: "behind", End: 77}
	g.Dones = append(slices.Clone(h.Dones), done, done)[:len(h.Dones)]
	return g
}

// wholeBatch tells all that a batch holds, and what is behind the ends of its lists.
func wholeBatch(b impl.RunBatch) string {
	return fmt.Sprint(b.Name, b.Recipe[:cap(b.Recipe)], b.Slots[:cap(b.Slots)], b.At, b.Since, b.Start)
}

// wholeHouse tells all that a house holds, and what is behind the ends of its lists.
func wholeHouse(h impl.RunHouse) string {
	told := fmt.Sprint(h.Now, h.Last, wholeBook(h.Share), h.Dones[:cap(h.Dones)])
	for _, b := range h.Batches[:cap(h.Batches)] {
		told += wholeBatch(b)
	}
	return told
}

// toldOfBatch asks each function of chapter 21, and answers with all they told.
func toldOfBatch(b impl.RunBatch, from string) string {
	return fmt.Sprintf("%v %q %q", impl.RunBatchOk(b), impl.RunThings(b, from), impl.RunOwn(b))
}

// toldOfHouse asks each function of chapter 22, and answers with all they told.
func toldOfHouse(h impl.RunHouse) string {
	return fmt.Sprint(impl.RunHouseOk(h), impl.RunLeft(h))
}

// Each function answers at every argument, the same when asked again, and writes into none.
func TestRunBatchAnswersAtEveryArgument(t *testing.T) {
	d := &dice{state: 46}
	for range 8000 {
		b := guardedBatch(d.anyBatch())
		kept := wholeBatch(b)
		from := pick(d, append(phaseNames(b.Recipe), oddTexts...))
		first := toldOfBatch(b, from)
		if again := toldOfBatch(b, from); again != first {
			t.Fatalf("%s: told %s, and then %s", short(b), first, again)
		}
		if now := wholeBatch(b); now != kept {
			t.Fatalf("an argument was written into: %s, was %s", now, kept)
		}
		wantBatchAsSaid(t, b, from)
	}
}

func TestRunHouseAnswersAtEveryArgument(t *testing.T) {
	d := &dice{state: 47}
	for range 5000 {
		h := guardedHouse(d.anyHouse())
		kept := wholeHouse(h)
		first := toldOfHouse(h)
		if again := toldOfHouse(h); again != first {
			t.Fatalf("%s: told %s, and then %s", short(h), first, again)
		}
		if now := wholeHouse(h); now != kept {
			t.Fatalf("an argument was written into: %s, was %s", now, kept)
		}
		wantHouseAsSaid(t, h)
	}
}

// very is so many of something.
func very[T any](n int, one T) []T {
	return slices.Repeat([]T{one}, n)
}

// What is far greater than it may be is refused as what is greater by one.
func TestRunAnswersAtVeryGreatArguments(t *testing.T) {
	long := strings.Repeat("a", 1000000)
	for _, change := range []func(b *impl.RunBatch){
		func(b *impl.RunBatch) { b.Name = long },
		func(b *impl.RunBatch) { b.At = long },
		func(b *impl.RunBatch) { b.Slots[1].Thing = long },
		func(b *impl.RunBatch) { b.Slots[1].Slot = long },
		func(b *impl.RunBatch) { b.Recipe[1].Name = long },
		func(b *impl.RunBatch) { b.Recipe = very(200000, b.Recipe[0]) },
		func(b *impl.RunBatch) { b.Slots = very(200000, b.Slots[0]) },
		func(b *impl.RunBatch) { b.Since = math.MaxInt },
		func(b *impl.RunBatch) { b.Since = math.MinInt },
		func(b *impl.RunBatch) { b.Start = math.MinInt },
	} {
		b := brewing(change)
		if told := toldOfBatch(b, "fill") + toldOfBatch(b, long); told != "false [] []false [] []" {
			t.Errorf("%s: told %s", short(b), told)
		}
	}
	wantThings(t, brewing(nil), long)
	for _, change := range []func(h *impl.RunHouse){
		func(h *impl.RunHouse) { h.Batches = very(200000, h.Batches[0]) },
		func(h *impl.RunHouse) { h.Share.Batches = very(200000, h.Share.Batches[0]) },
		func(h *impl.RunHouse) {
			h.Batches, h.Share.Batches = very(200000, h.Batches[0]), very(200000, h.Share.Batches[1])
		},
		func(h *impl.RunHouse) { h.Share.Things = very(200000, "keg") },
		func(h *impl.RunHouse) { h.Share.Batches[0].Needs = very(200000, "keg") },
		func(h *impl.RunHouse) { h.Share.Batches[1].Has = very(200000, "keg") },
		func(h *impl.RunHouse) { h.Dones = very(200000, h.Dones[0]) },
		func(h *impl.RunHouse) { h.Dones[1].Name = long },
		func(h *impl.RunHouse) { h.Batches[1].Name, h.Share.Batches[0].Name = long, long },
		func(h *impl.RunHouse) { h.Now, h.Last = math.MaxInt, math.MaxInt },
		func(h *impl.RunHouse) { h.Now, h.Last = math.MinInt, math.MinInt },
		func(h *impl.RunHouse) { h.Batches[0].Since = math.MinInt },
		func(h *impl.RunHouse) { h.Batches[2].Start = math.MaxInt },
	} {
		if told := toldOfHouse(house(change)); told != "false 0" {
			t.Errorf("%s: told %s", short(house(change)), told)
		}
	}
}

// What stands behind the end of a list is not of it.
func TestRunReadsNothingBehindAnEnd(t *testing.T) {
	b := guardedBatch(brewing(nil))
	wantBatchAsSaid(t, b, "behind")
	b.Slots = append(brewing(nil).Slots, impl.RunSlot{Slot: "s9", Thing: "jug"})[:4]
	wantThings(t, b, "odd", "", "tun", "vat")
	b.Recipe = append(brew(), phase(nil))[:5]
	wantThings(t, b, "look")
	b.At = "look"
	wantBroken(t, "at", b)
	h := guardedHouse(house(nil))
	wantHouse(t, "guarded", h, 26)
	h.Dones = append(endings(20, 40), impl.RunDone{})[:20]
	wantHouse(t, "a done behind the end", h, 26)
	h.Batches = append(h.Batches, impl.RunBatch{})[:3]
	wantHouse(t, "a batch behind the end", h, 26)
	h.Share.Batches[0].Needs = texts("keg", "tun", "vat")[:2]
	wantHouse(t, "a need behind the end", h, 26)
	h.Share.Batches[1].Has = texts("jug", "keg")[:0]
	wantHouseBroken(t, "has", h)
}

// Lists of the arguments that are the same memory are as good as others.
func TestRunListsThatAreTheSameMemory(t *testing.T) {
	r, slots, names := pour(), slotted("s1", "keg", "s2", "tun"), texts("keg", "tun")
	one := impl.RunBatch{Name: "b", Recipe: r, Slots: slots, At: "fill", Since: 1, Start: 1}
	other := impl.RunBatch{Name: "a", Recipe: r, Slots: slots, At: "go", Since: -1, Start: 2}
	h := impl.RunHouse{Last: 2, Share: impl.ShareBook{Things: names, Batches: []impl.ShareBatch{batch("a", names[:0], names), batch("b", names[:1], names)}}, Batches: []impl.RunBatch{one, other}}
	kept := wholeHouse(h)
	wantHouse(t, "the same memory", h, 6+4)
	if now := wholeHouse(h); now != kept {
		t.Errorf("an argument was written into: %s, was %s", now, kept)
	}
}

// thingsAndOwn is what RunThings answers of each phase, and then what RunOwn does.
func thingsAndOwn(b impl.RunBatch) [][]string {
	var lists [][]string
	for _, from := range phaseNames(b.Recipe) {
		lists = append(lists, impl.RunThings(b, from))
	}
	return append(lists, impl.RunOwn(b))
}

func TestRunBatchIsNewMemory(t *testing.T) {
	d := &dice{state: 48}
	things, own := 0, 0
	for range 2000 {
		b := guardedBatch(d.someBatch())
		kept := wholeBatch(b)
		before := fmt.Sprintf("%q", thingsAndOwn(b))
		lists := slices.Concat(thingsAndOwn(b), thingsAndOwn(b))
		things, own = max(things, len(lists[0])), max(own, len(lists[len(lists)-1]))
		for i, list := range lists {
			rest := fmt.Sprintf("%q", lists[i+1:])
			scribble(list)
			if now := fmt.Sprintf("%q", lists[i+1:]); now != rest {
				t.Fatalf("two answers share memory: %s, was %s", now, rest)
			}
		}
		if wholeBatch(b) != kept {
			t.Fatalf("an answer shares memory with an argument: %s, was %s", wholeBatch(b), kept)
		}
		if again := fmt.Sprintf("%q", thingsAndOwn(b)); again != before {
			t.Fatalf("an answer is kept from call to call: %s, was %s", again, before)
		}
	}
	if things < 8 || own != 2 {
		t.Errorf("at most %d things, %d at once", things, own)
	}
}

// Calls at the same time, of one batch and one house, do not stand in each other's way.
func TestRunAtTheSameTime(t *testing.T) {
	b, h := brewing(nil), house(nil)
	want := toldOfBatch(b, "hold") + toldOfHouse(h)
	told := make([]string, 200)
	var all sync.WaitGroup
	for i := range told {
		all.Go(func() { told[i] = toldOfBatch(b, "hold") + toldOfHouse(h) })
	}
	all.Wait()
	for _, one := range told {
		if one != want {
			t.Fatalf("told %s, alone %s", one, want)
		}
	}
}

// The five functions as README.md has them.
func TestRunOfTheExample(t *testing.T) {
	r, fault := impl.RecParse("fill fill s1 malt 5 within 3 then go else scrapped\ngo move s1 s2 5 within 4 then good else saved\n")
	if fault != (impl.RecFault{}) {
		t.Fatal(fault)
	}
	a := impl.RunBatch{Name: "a", Recipe: r, Slots: []impl.RunSlot{{Slot: "s1", Thing: "tun"}, {Slot: "s2", Thing: "keg"}}, At: "fill", Since: 1, Start: 1}
	b := impl.RunBatch{Name: "b", Recipe: r, Slots: []impl.RunSlot{{Slot: "s1", Thing: "keg"}, {Slot: "s2", Thing: "tun"}}, At: "fill", Since: -1, Start: 2}
	wantOk(t, "a", impl.RunBatchOk(a), true)
	wantThings(t, a, "fill", "keg", "tun")
	wantThings(t, a, "good")
	wantOwn(t, a, "tun")
	h := impl.RunHouse{Now: 1, Last: 2, Batches: []impl.RunBatch{a, b}, Share: impl.ShareBook{Things: texts("keg", "tun"), Batches: []impl.ShareBatch{
		{Name: "a", Has: texts("tun"), Needs: texts("keg", "tun")},
		{Name: "b", Needs: texts("keg", "tun")},
	}}}
	wantHouse(t, "the example", h, 13)
	h.Share.Batches[0].Has = nil
	wantHouseBroken(t, "has", h)
}

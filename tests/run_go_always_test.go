package tests

import (
	"fmt"
	"math"
	"slices"
	"strings"
	"sync"
	"testing"

	"loop.example/maltrun/impl"
)

// guardedEvent is an event all of whose lists have more behind their ends, which no call may read or write.
func guardedEvent(e event) event {
	e.recipe = guarded(e.recipe)
	e.slots = guardedBatch(impl.RunBatch{Slots: e.slots}).Slots
	return e
}

// wholeEvent tells all that an event holds, and what is behind the ends of its lists.
func wholeEvent(e event) string {
	return fmt.Sprint(e.what, e.name, e.well, e.recipe[:cap(e.recipe)], e.slots[:cap(e.slots)])
}

// someHouse makes a house that may be ok, or not, or one that events led to.
func (d *dice) someHouse() impl.RunHouse {
	switch d.below(3) {
	case 0:
		return d.anyHouse()
	case 1:
		return d.okHouse(1+d.below(8), d.below(6))
	default:
		return d.lead(1+d.below(6), 3+d.below(12), nil)
	}
}

// oddEvent makes an event of any kind, with arguments that may be anything.
func (d *dice) oddEvent(h impl.RunHouse) event {
	if d.below(3) > 0 && len(h.Share.Things) > 0 {
		return d.anyEvent(h)
	}
	b := d.anyBatch()
	return event{what: pick(d, texts(start, start, say, tick)), name: b.Name, recipe: b.Recipe, slots: b.Slots, well: d.below(2) == 0}
}

// Each of the three answers at every argument, the same when asked again, and writes into none.
func TestRunGoAnswersAtEveryArgument(t *testing.T) {
	d := &dice{state: 61}
	codes := map[string]int{}
	for range 5000 {
		h := guardedHouse(d.someHouse())
		e := guardedEvent(d.oddEvent(h))
		kept, keptEvent := wholeHouse(h), wholeEvent(e)
		after, code := wantEventAsSaid(t, h, e)
		if again, codeAgain := e.do(h); codeAgain != code || plainly(again) != plainly(after) {
			t.Fatalf("%s: %v: told %s %d, and then %s %d", short(h), e, short(after), code, short(again), codeAgain)
		}
		if now, nowEvent := wholeHouse(h), wholeEvent(e); now != kept || nowEvent != keptEvent {
			t.Fatalf("%v: an argument was written into: %s %s, was %s %s", e, now, nowEvent, kept, keptEvent)
		}
		codes[fmt.Sprint(e.what, " ", code)]++
	}
	for _, what := range texts(start+" 0", start+" 1", start+" 2", start+" 3", start+" 4", say+" 0", say+" 1", say+" 3", say+" 6", tick+" 0", tick+" 1", tick+" 7") {
		if codes[what] < 10 {
			t.Errorf("%s only %d times", what, codes[what])
		}
	}
}

// RunOpen answers at every list, the same when asked again, writes into none, and answers with new memory.
func TestRunOpenAtEveryArgument(t *testing.T) {
	d := &dice{state: 62}
	opened := map[bool]int{}
	for range 3000 {
		things := d.namesUpTo(d.below(11))
		for range d.below(3) {
			things = d.spoilList(things)
		}
		things = guardedTexts(things)
		kept := slices.Clone(things[:cap(things)])
		h, ok := impl.RunOpen(things)
		other, again := impl.RunOpen(things)
		want := impl.RunHouse{Share: impl.ShareBook{Things: things}}
		if !bookOkByForm(want.Share) {
			want = impl.RunHouse{}
		}
		if ok != bookOkByForm(impl.ShareBook{Things: things}) || again != ok || plainly(h) != plainly(want) || plainly(other) != plainly(want) {
			t.Fatalf("RunOpen(%.200q) is %s and %v, and then %s and %v", things, short(h), ok, short(other), again)
		}
		scribble(h.Share.Things)
		if !slices.Equal(things[:cap(things)], kept) || plainly(other) != plainly(want) {
			t.Fatalf("RunOpen(%.200q): an answer shares memory", things)
		}
		opened[ok]++
	}
	if opened[true] < 500 || opened[false] < 500 {
		t.Errorf("%v", opened)
	}
}

// scribbleHouse writes all over the lists of a house, their spare room included, into each its own text, and says whether no
// two of them share memory.
func scribbleHouse(h impl.RunHouse) bool {
	batches := h.Batches[:cap(h.Batches)]
	for i, b := range batches {
		for j := range b.Recipe[:cap(b.Recipe)] {
			b.Recipe[:cap(b.Recipe)][j] = impl.RecPhase{Name: fmt.Sprint("scribble", i)}
		}
		for j := range b.Slots[:cap(b.Slots)] {
			b.Slots[:cap(b.Slots)][j] = impl.RunSlot{Slot: fmt.Sprint("scribble", i)}
		}
	}
	for i, b := range batches {
		for _, p := range b.Recipe[:cap(b.Recipe)] {
			if p.Name != fmt.Sprint("scribble", i) {
				return false
			}
		}
		for _, s := range b.Slots[:cap(b.Slots)] {
			if s.Slot != fmt.Sprint("scribble", i) {
				return false
			}
		}
	}
	for i := range batches {
		batches[i] = impl.RunBatch{Name: "scribble"}
	}
	dones := h.Dones[:cap(h.Dones)]
	for i := range dones {
		dones[i] = impl.RunDone{Name: "scribble"}
	}
	return scribbleBook(h.Share)
}

// wantNewHouse: what an event answers shares no memory with its arguments, with what it answered ahead, or within itself.
func wantNewHouse(t *testing.T, h impl.RunHouse, e event) int {
	t.Helper()
	kept, keptEvent := wholeHouse(h), wholeEvent(e)
	one, code := e.do(h)
	other, _ := e.do(h)
	before := wholeHouse(one)
	if !scribbleHouse(other) {
		t.Fatalf("%s: %v: two lists of one answer share memory", short(h), e)
	}
	if after := wholeHouse(one); after != before {
		t.Fatalf("%s: %v: two answers share memory: %s, was %s", short(h), e, after, before)
	}
	told := plainly(one)
	scribbleHouse(one)
	if wholeHouse(h) != kept || wholeEvent(e) != keptEvent {
		t.Fatalf("%v: an answer shares memory with an argument: %s, was %s", e, wholeHouse(h), kept)
	}
	if again, _ := e.do(h); plainly(again) != told {
		t.Fatalf("%s: %v: an answer is kept from call to call: %s, was %s", short(h), e, short(again), told)
	}
	return code
}

func TestRunGoIsNewMemory(t *testing.T) {
	d := &dice{state: 63}
	codes := map[string]int{}
	for range 6000 {
		h := d.lead(1+d.below(6), 2+d.below(16), nil)
		if d.below(3) == 0 {
			h = d.okHouse(1+d.below(8), d.below(6))
		}
		e := d.anyEvent(h)
		if len(h.Batches) > 0 && e.what == start && d.below(3) == 0 {
			b := pick(d, h.Batches) // what begins may be of the memory of one that is there
			e.recipe, e.slots = b.Recipe, b.Slots
		} else {
			e = guardedEvent(e)
		}
		if d.below(2) == 0 {
			h = guardedHouse(h)
		}
		codes[fmt.Sprint(e.what, " ", wantNewHouse(t, h, e))]++
	}
	for _, what := range texts(start+" 0", start+" 2", start+" 3", start+" 4", say+" 0", say+" 3", say+" 6", tick+" 0", tick+" 7") {
		if codes[what] < 10 {
			t.Errorf("%s only %d times", what, codes[what])
		}
	}
}

// Lists of the arguments that are the same memory are as good as others; the answer's are its own.
func TestRunGoWithListsThatAreTheSameMemory(t *testing.T) {
	r, slots, names := pour(), slotted("s1", "keg", "s2", "tun"), texts("keg", "tun")
	one := impl.RunBatch{Name: "b", Recipe: r, Slots: slots, At: "fill", Since: 2, Start: 1}
	other := impl.RunBatch{Name: "a", Recipe: r, Slots: slots, At: "go", Since: -1, Start: 2}
	h := impl.RunHouse{Last: 2, Share: impl.ShareBook{Things: names, Batches: []impl.ShareBatch{batch("a", names[:0], names), batch("b", names[:1], names)}}, Batches: []impl.RunBatch{one, other}}
	for _, e := range []event{ticks(), goesWell("b"), goesBadly("b"), goesWell("a"), {what: start, name: "c", recipe: r, slots: slots}, {what: start, name: "a", recipe: r, slots: slots}} {
		wantEventAsSaid(t, h, e)
		wantNewHouse(t, h, e)
	}
}

// What stands behind the end of a list is not of it.
func TestRunGoReadsNothingBehindAnEnd(t *testing.T) {
	h := guardedHouse(nobody("keg", "tun"))
	e := guardedEvent(pours("a", "tun", "keg"))
	h = guardedHouse(wantStands(t, h, e, "now 0 last 1, a fill 0 [tun] of [keg tun]"))
	wantCodes(t, "nobody", h, goesWell("behind"), 3)
	wantStands(t, h, goesBadly("a"), "now 0 last 1, a scrapped at 0")
	short := pours("b", "keg", "tun")
	short.slots = short.slots[:1]
	wantCodes(t, "a slot behind the end", h, short, 2)
	short.recipe, short.slots = pour()[:1], slotted("s1", "keg", "s2", "tun")
	wantCodes(t, "a phase behind the end", h, short, 2)
	things := texts("keg", "tun", "vat")
	if h, ok := impl.RunOpen(things[:2]); !ok || len(h.Share.Things) != 2 {
		t.Errorf("%v %v", h, ok)
	}
	if _, ok := impl.RunOpen(texts("keg", "tun", "no name")[:2]); !ok {
		t.Error("a thing behind the end is looked at")
	}
}

// What is far greater than it may be is refused as what is greater by one.
func TestRunGoAnswersAtVeryGreatArguments(t *testing.T) {
	long := strings.Repeat("a", 1000000)
	for _, e := range []event{
		pours(long, "keg", "tun"),
		pours("d", long, "tun"),
		{what: start, name: "d", recipe: pour(), slots: slotted("s1", "keg", long, "tun")},
		{what: start, name: "d", recipe: very(200000, pour()[0]), slots: slotted("s1", "keg", "s2", "tun")},
		{what: start, name: "d", recipe: pour(), slots: very(200000, slotted("s1", "keg")[0])},
	} {
		if after, code := e.do(house(nil)); code != 2 || plainly(after) != plainly(house(nil)) {
			t.Errorf("%v: the code is %d", e, code)
		}
	}
	wantCodes(t, "a long name", house(nil), goesWell(long), 3)
	for _, change := range []func(h *impl.RunHouse){
		func(h *impl.RunHouse) { h.Batches = very(200000, h.Batches[0]) },
		func(h *impl.RunHouse) { h.Share.Batches = very(200000, h.Share.Batches[0]) },
		func(h *impl.RunHouse) { h.Share.Things = very(200000, "keg") },
		func(h *impl.RunHouse) { h.Dones = very(200000, h.Dones[0]) },
		func(h *impl.RunHouse) { h.Now = math.MaxInt },
		func(h *impl.RunHouse) { h.Last = math.MaxInt },
		func(h *impl.RunHouse) { h.Batches[0].Since = math.MaxInt },
		func(h *impl.RunHouse) { h.Batches[2].Start = math.MaxInt },
		func(h *impl.RunHouse) { h.Batches[2].Recipe = very(200000, h.Batches[2].Recipe[0]) },
	} {
		for _, e := range []event{ticks(), goesWell("c"), begins(uses("d", "jug")), begins(uses("a", "jug"))} {
			if after, code := e.do(house(change)); code != 1 || plainly(after) != plainly(impl.RunHouse{}) {
				t.Errorf("%v: the code is %d, and %s", e, code, short(after))
			}
		}
	}
	if _, ok := impl.RunOpen(texts(long)); ok {
		t.Error("a long thing")
	}
}

// Calls at the same time, of one house, do not stand in each other's way.
func TestRunGoAtTheSameTime(t *testing.T) {
	h := led(t, texts("keg", "tun", "vat"), pours("b", "tun", "keg"), pours("a", "keg", "tun"), ticks())
	events := []event{ticks(), goesWell("b"), goesBadly("b"), goesWell("a"), begins(uses("c", "vat"))}
	var want []string
	for _, e := range events {
		after, code := e.do(h)
		want = append(want, fmt.Sprint(plainly(after), code))
	}
	told := make([]string, 200)
	var all sync.WaitGroup
	for i := range told {
		all.Go(func() {
			after, code := events[i%len(events)].do(h)
			told[i] = fmt.Sprint(plainly(after), code)
		})
	}
	all.Wait()
	for i, one := range told {
		if one != want[i%len(events)] {
			t.Fatalf("told %s, alone %s", one, want[i%len(events)])
		}
	}
}

// The four functions and RunGoes as README.md has them.
func TestRunGoOfTheExample(t *testing.T) {
	h, ok := impl.RunOpen(texts("keg", "tun"))
	wantOk(t, "opened", ok, true)
	for i, step := range []struct {
		event
		code int
		told string
	}{
		{pours("a", "tun", "keg"), 0, "now 0 last 1, a fill 0 [tun] of [keg tun]"},
		{pours("b", "keg", "tun"), 0, "now 0 last 2, a fill 0 [tun] of [keg tun], b fill -1 [] of [keg tun]"},
		{goesWell("b"), 6, "now 0 last 2, a fill 0 [tun] of [keg tun], b fill -1 [] of [keg tun]"},
		{ticks(), 0, "now 1 last 2, a fill 1 [tun] of [keg tun], b fill -1 [] of [keg tun]"},
		{goesWell("a"), 0, "now 1 last 2, a go 0 [keg tun] of [keg tun], b fill -1 [] of [keg tun]"},
		{goesBadly("a"), 0, "now 1 last 2, b fill 0 [keg] of [keg tun], a saved at 1"},
	} {
		after, code := step.do(h)
		if told := stands(after); code != step.code || told != step.told {
			t.Fatalf("step %d: %s %d, should be %s %d", i, told, code, step.told, step.code)
		}
		h = after
	}
	wantGoes(t, "the example", h, "b")
	wantHouse(t, "the example", h, 7)
}

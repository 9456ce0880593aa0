package tests

import (
	"fmt"
	"math"
	"slices"
	"testing"

	"loop.example/maltrun/impl"
)

func TestRunBatchOrdinary(t *testing.T) {
	b := brewing(nil)
	wantOk(t, "brewing", impl.RunBatchOk(b), true)
	wantThings(t, b, "fill", "cask", "keg", "tun", "vat")
	wantThings(t, b, "hold", "keg", "tun", "vat")
	wantThings(t, b, "wash", "cask", "tun", "vat")
	wantThings(t, b, "move", "tun", "vat")
	for at, own := range map[string][]string{"fill": {"keg"}, "hold": {"keg"}, "wash": {"cask"}, "move": {"tun", "vat"}} {
		wantOwn(t, brewingAt(at, -1), own...)
		wantOwn(t, brewingAt(at, 0), own...)
	}
	wantOk(t, "nothing", impl.RunBatchOk(impl.RunBatch{}), false)
	wantThings(t, impl.RunBatch{}, "")
	wantOwn(t, impl.RunBatch{})
}

// What a batch may need from a phase on does not hang on where it is, for how long, or on when it began.
func TestRunThingsWhereverItIs(t *testing.T) {
	for _, p := range brew() {
		for _, since := range []int{-1, 0, p.Within - 1} {
			b := brewingAt(p.Name, since)
			b.Name, b.Start = "other", 1000000
			for _, from := range append(phaseNames(brew()), "good", "none") {
				wantThings(t, b, from, impl.RunThings(brewing(nil), from)...)
			}
		}
	}
}

// From what is no phase nothing is needed: an end, a slot, a thing, or any text.
func TestRunThingsFromNoPhase(t *testing.T) {
	names := append(texts("good", "saved", "scrapped", "", "none", "s1", "s9", "vat", "malt", "b", "fil", "fill ", "fills", "Fill", "fill\x00"), notNames()...)
	for _, at := range phaseNames(brew()) {
		for _, from := range names {
			wantThings(t, brewingAt(at, 0), from)
		}
	}
}

// A phase that never comes behind the first one may use slots that are none of Slots: together they are one empty text.
func TestRunThingsFromWhatNeverComes(t *testing.T) {
	wantThings(t, brewing(nil), "odd", "", "tun", "vat")
	wantOwn(t, brewingAt("odd", -1), "")
	wantOwn(t, brewingAt("odd", 999), "")
	for _, one := range []struct {
		a, b        string
		things, own []string
	}{
		{"s8", "s9", texts("", "tun", "vat"), texts("")},
		{"s9", "s8", texts("", "tun", "vat"), texts("")},
		{"s9", "s2", texts("", "keg", "tun", "vat"), texts("", "keg")},
		{"s2", "s9", texts("", "keg", "tun", "vat"), texts("", "keg")},
		{"s3", "s9", texts("", "tun", "vat"), texts("", "tun")},
		{"s4", "s2", texts("cask", "keg", "tun", "vat"), texts("cask", "keg")},
		{"s1", "s3", texts("tun", "vat"), texts("tun", "vat")},
	} {
		b := brewingAt("odd", 0)
		b.Recipe[1].Kind, b.Recipe[1].A, b.Recipe[1].B, b.Recipe[1].N = impl.RecMove, one.a, one.b, 1
		wantOk(t, "a move that never comes", impl.RunBatchOk(b), true)
		wantThings(t, b, "odd", one.things...)
		wantOwn(t, b, one.own...)
	}
}

// What never comes may be all but the first phase, and may be where the batch is.
func TestRunThingsWhereNothingComes(t *testing.T) {
	r := brew()
	r[0].Then, r[0].Else = "good", "scrapped"
	b := impl.RunBatch{Name: "a", Recipe: r, Slots: slotted("s2", "keg"), At: "fill", Since: 9, Start: 1}
	wantOk(t, "nothing comes", impl.RunBatchOk(b), true)
	for from, things := range map[string][]string{"fill": {"keg"}, "odd": {""}, "hold": {"", "keg"}, "wash": {""}, "move": {""}} {
		wantThings(t, b, from, things...)
	}
	for at, own := range map[string][]string{"fill": {"keg"}, "odd": {""}, "hold": {"keg"}, "wash": {""}, "move": {""}} {
		b.At, b.Since = at, 0
		wantOwn(t, b, own...)
	}
	b.Slots = slotted("s1", "vat", "s2", "keg", "s3", "tun", "s4", "cask", "s9", "jug")
	wantBroken(t, "slots", b)
}

// RunOwn of one kind of phase after the other: A is a slot, and B is one of a move alone.
func TestRunOwnOfEachKind(t *testing.T) {
	fill, move, hold, clean, look := kinds()[0], kinds()[1], kinds()[2], kinds()[3], kinds()[4]
	fill.B = fill.A
	wantOwn(t, alone(fill, "v1"), "v1")
	wantOwn(t, alone(hold, "v1"), "v1")
	wantOwn(t, alone(clean, "v1"), "v1")
	wantOwn(t, alone(look, "v1"), "v1")
	wantOwn(t, alone(move, "v1", "v2"), "v1", "v2")
	wantOwn(t, alone(move, "v2", "v1"), "v1", "v2")
	move.A, move.B = move.B, move.A
	wantOwn(t, alone(move, "v1", "v2"), "v1", "v2")
	wantOwn(t, alone(move, "v2", "v1"), "v1", "v2")
}

// The stuff of a fill is no slot, though it may be called like one.
func TestRunOwnLeavesTheStuffOut(t *testing.T) {
	r := brew()
	r[0].B = "s1"
	b := brewing(func(b *impl.RunBatch) { b.Recipe = r })
	wantOwn(t, b, "keg")
	wantThings(t, b, "hold", "keg", "tun", "vat")
}

// Slots, things, batches and stuffs may be called like each other, and like ends.
func TestRunBatchNamesThatMeet(t *testing.T) {
	p := kinds()[impl.RecMove-1]
	p.Name, p.A, p.B = "a", "good", "a"
	b := alone(p, "saved", "a")
	wantOk(t, "names that meet", impl.RunBatchOk(b), true)
	wantThings(t, b, "a", "a", "saved")
	wantOwn(t, b, "a", "saved")
	wantThings(t, b, "good")
	b.Name = "good"
	wantOwn(t, b, "a", "saved")
	b.Slots = slotted("a", "good", "good", "a")
	wantOwn(t, b, "a", "good")
}

func TestRunBatchName(t *testing.T) {
	for _, name := range texts("a", "z", "0", "9", "-", "12345678", "--------", "good", "fill", "keg") {
		wantBatchAsSaid(t, brewing(func(b *impl.RunBatch) { b.Name = name }))
		wantOk(t, name, impl.RunBatchOk(brewing(func(b *impl.RunBatch) { b.Name = name })), true)
	}
	for _, name := range notNames() {
		wantBroken(t, "name", brewing(func(b *impl.RunBatch) { b.Name = name }))
	}
}

func TestRunBatchRecipe(t *testing.T) {
	for _, r := range notOk() {
		wantBroken(t, "recipe", brewing(func(b *impl.RunBatch) { b.Recipe = r }))
	}
	wantBroken(t, "recipe", impl.RunBatch{Name: "a", Since: -1, Start: 1})
	b := wide()
	wantBatchAsSaid(t, b, "good")
	wantOk(t, "twelve phases", impl.RunBatchOk(b), true)
	b.Recipe = append(b.Recipe, phase(nil))
	wantBroken(t, "recipe", b)
}

// Slots are as many as the recipe's, each once, in order.
func TestRunBatchSlots(t *testing.T) {
	for _, slots := range [][]impl.RunSlot{
		nil,
		slotted("s1", "vat", "s2", "keg", "s3", "tun"),
		slotted("s2", "keg", "s3", "tun", "s4", "cask"),
		slotted("s1", "vat", "s3", "tun", "s4", "cask"),
		slotted("s1", "vat", "s2", "keg", "s3", "tun", "s4", "cask", "s5", "jug"),
		slotted("s1", "vat", "s2", "keg", "s3", "tun", "s4", "cask", "s9", "jug"),
		slotted("s0", "jug", "s1", "vat", "s2", "keg", "s3", "tun", "s4", "cask"),
		slotted("s1", "vat", "s2", "keg", "s3", "tun", "s4", "cask", "", "jug"),
		slotted("s1", "vat", "s2", "keg", "s3", "tun", "s4", "cask", "s4", "jug"),
		slotted("s1", "vat", "s1", "jug", "s2", "keg", "s3", "tun", "s4", "cask"),
		slotted("s1", "vat", "s1", "keg", "s3", "tun", "s4", "cask"),
		slotted("s1", "vat", "s2", "keg", "s3", "tun", "s3", "cask"),
		slotted("s2", "keg", "s1", "vat", "s3", "tun", "s4", "cask"),
		slotted("s1", "vat", "s2", "keg", "s4", "cask", "s3", "tun"),
		slotted("s4", "cask", "s3", "tun", "s2", "keg", "s1", "vat"),
		slotted("s4", "cask", "s2", "keg", "s3", "tun", "s1", "vat"),
		slotted("s1", "vat", "s2", "keg", "s3", "tun", "s5", "cask"),
		slotted("S1", "vat", "s2", "keg", "s3", "tun", "s4", "cask"),
		slotted("s1", "vat", "s2 ", "keg", "s3", "tun", "s4", "cask"),
		slotted("", "vat", "s2", "keg", "s3", "tun", "s4", "cask"),
	} {
		wantBroken(t, "slots", brewing(func(b *impl.RunBatch) { b.Slots = slots }))
	}
}

// Slots are those of the first phase, wherever the batch is: not those of a later one alone.
func TestRunBatchSlotsOfALaterPhase(t *testing.T) {
	b := brewingAt("move", 0)
	b.Slots = slotted("s1", "vat", "s3", "tun")
	wantBroken(t, "slots", b)
	b.Recipe = b.Recipe[4:]
	wantBatchAsSaid(t, b)
	wantOk(t, "as the first phase", impl.RunBatchOk(b), true)
}

func TestRunBatchManySlots(t *testing.T) {
	b := wide()
	want := []string{}
	for i := range 24 {
		want = append(want, fmt.Sprintf("t%02d", i))
	}
	wantOk(t, "as many slots as there can be", impl.RunBatchOk(b), true)
	wantThings(t, b, b.Recipe[0].Name, want...)
	wantOwn(t, b, "t11", "t23")
	wantThings(t, b, b.Recipe[11].Name, "t00", "t12")
	for i := range b.Slots {
		less := wide()
		less.Slots = slices.Delete(less.Slots, i, i+1)
		wantBroken(t, "slots", less)
		same := wide()
		same.Slots[i].Thing = same.Slots[(i+7)%24].Thing
		wantBroken(t, "things", same)
		odd := wide()
		odd.Slots[i].Thing = "T"
		wantBroken(t, "thing", odd)
	}
	b.Slots = make([]impl.RunSlot, 100000)
	wantOk(t, "very many slots", impl.RunBatchOk(b), false)
}

// Each Thing is a name, and no two are the same.
func TestRunBatchThings(t *testing.T) {
	for i := range brewing(nil).Slots {
		for _, thing := range notNames() {
			wantBroken(t, "thing", brewing(func(b *impl.RunBatch) { b.Slots[i].Thing = thing }))
		}
		for _, thing := range texts("12345678", "-", "good", "s1", "b", "fill", "malt") {
			b := brewing(func(b *impl.RunBatch) { b.Slots[i].Thing = thing })
			wantOk(t, thing, impl.RunBatchOk(b), true)
			wantBatchAsSaid(t, b)
		}
		for j := range i {
			wantBroken(t, "things", brewing(func(b *impl.RunBatch) { b.Slots[i].Thing = b.Slots[j].Thing }))
		}
	}
	wantBroken(t, "things", alone(kinds()[impl.RecMove-1], "keg", "keg"))
}

func TestRunBatchStart(t *testing.T) {
	for start, ok := range map[int]bool{0: false, 1: true, 2: true, -1: false, 1000000: true, 1000001: true, math.MaxInt: true, math.MinInt: false} {
		b := brewing(func(b *impl.RunBatch) { b.Start = start })
		wantOk(t, fmt.Sprint("start ", start), impl.RunBatchOk(b), ok)
		if !ok {
			wantBroken(t, "start", b)
		}
	}
}

// At is a phase of the recipe, one that never comes, too.
func TestRunBatchAt(t *testing.T) {
	for _, at := range phaseNames(brew()) {
		wantOk(t, at, impl.RunBatchOk(brewingAt(at, -1)), true)
	}
	for _, at := range append(texts("good", "saved", "scrapped", "none", "s1", "keg", "fil", "fills", "FILL", "fill\x00"), notNames()...) {
		for _, since := range []int{-1, 0} {
			wantBroken(t, "at", brewingAt(at, since))
		}
	}
}

func TestRunBatchSince(t *testing.T) {
	for _, p := range brew() {
		for since, ok := range map[int]bool{-2: false, -1: true, 0: true, p.Within - 1: true, p.Within: false, p.Within + 1: false, math.MaxInt: false, math.MinInt: false, 1 << 32: false, -1000: false} {
			b := brewingAt(p.Name, since)
			wantOk(t, fmt.Sprint(p.Name, " since ", since), impl.RunBatchOk(b), ok)
			if !ok {
				wantBroken(t, "since", b)
			}
		}
	}
	for within, ok := range map[int]bool{1: false, 2: true, 1000: true} {
		p := phase(func(p *impl.RecPhase) { p.Within = within })
		b := alone(p, "keg")
		b.Since = 1
		wantOk(t, fmt.Sprint("since 1 within ", within), impl.RunBatchOk(b), ok)
	}
}

// Since is held against Within of the phase where the batch is, of no other one.
func TestRunBatchSinceOfItsPhase(t *testing.T) {
	r := chain(3)
	r[0].Within, r[1].Within, r[2].Within = 10, 5, 20
	b := impl.RunBatch{Name: "a", Recipe: r, Slots: slotted("sb", "t1", "sc", "t2", "sd", "t3"), Start: 1}
	for i, within := range []int{10, 5, 20} {
		for b.Since = range 25 {
			b.At = r[i].Name
			wantOk(t, fmt.Sprint(b.At, b.Since), impl.RunBatchOk(b), b.Since < within)
		}
	}
}

// Several parts may be broken at once.
func TestRunBatchBrokenInAllParts(t *testing.T) {
	b := impl.RunBatch{Name: "A", Recipe: notOk()[3], Slots: slotted("s1", "", "s1", ""), At: "none", Since: -5, Start: -5}
	wantBatchAsSaid(t, b, "", "fill")
	wantOk(t, "all parts", impl.RunBatchOk(b), false)
}

func TestRunBatchOfEverySmallRecipe(t *testing.T) {
	n := 0
	everyRecipe(func(r []impl.RecPhase) {
		b := impl.RunBatch{Name: "a", Recipe: r, Start: 1}
		for _, slot := range slotsByForm(r, r[0].Name) {
			b.Slots = append(b.Slots, impl.RunSlot{Slot: slot, Thing: "t" + slot[1:]})
		}
		if n++; n%2 == 0 && len(b.Slots) == 2 {
			b.Slots[0].Thing, b.Slots[1].Thing = b.Slots[1].Thing, b.Slots[0].Thing
		}
		for i, p := range r {
			b.At, b.Since = p.Name, (n+i)%3-1
			wantBatchAsSaid(t, b, "good", "none")
		}
	})
	if n != 8+8*8*4+8*8*4*8*9 {
		t.Errorf("%d recipes", n)
	}
}

func TestRunBatchAsTheDocumentSays(t *testing.T) {
	d := &dice{state: 40}
	broken := map[string]int{}
	for range 8000 {
		b := d.anyBatch()
		switch faults := wantBatchAsSaid(t, b, pick(d, oddTexts), b.Name); len(faults) {
		case 0:
			broken["none"]++
		case 1:
			broken[faults[0]]++
		}
	}
	for _, part := range texts("none", "name", "recipe", "slots", "thing", "things", "at", "since", "start") {
		if broken[part] < 50 {
			t.Errorf("broken in %s alone only %d times", part, broken[part])
		}
	}
}

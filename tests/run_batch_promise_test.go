package tests

import (
	"slices"
	"testing"

	"loop.example/maltrun/impl"
)

// wantLess: what is needed at a phase is of what may yet be needed from it on, and from what it may go on to no more is.
func wantLess(t *testing.T, b impl.RunBatch, p impl.RecPhase) {
	t.Helper()
	b.At, b.Since = p.Name, -1
	from, own := impl.RunThings(b, p.Name), impl.RunOwn(b)
	if len(own) == 0 || !ofByForm(own, from) {
		t.Fatalf("%s: at %s it needs %q, and from there on %q", short(b), p.Name, own, from)
	}
	then, other := impl.RunThings(b, p.Then), impl.RunThings(b, p.Else)
	if !ofByForm(then, from) || !ofByForm(other, from) {
		t.Fatalf("%s: from %s on it needs %q, then %q, or else %q", short(b), p.Name, from, then, other)
	}
	if all := sorted(slices.Concat(own, then, other)); !slices.Equal(all, from) {
		t.Fatalf("%s: from %s on it needs %q, but together %q", short(b), p.Name, from, all)
	}
}

// Promise 20: what a batch may yet need becomes less, or stays, from phase to phase; what it needs now is of it.
func TestPromise20OfEverySmallRecipe(t *testing.T) {
	everyRecipe(func(r []impl.RecPhase) {
		b := impl.RunBatch{Name: "a", Recipe: r, Start: 1, At: r[0].Name}
		for i, slot := range slotsByForm(r, r[0].Name) {
			b.Slots = append(b.Slots, impl.RunSlot{Slot: slot, Thing: texts("tun", "keg")[i]})
		}
		for _, p := range r {
			wantLess(t, b, p)
		}
	})
}

func TestPromise20OfManyBatches(t *testing.T) {
	d := &dice{state: 42}
	seen := [6]int{}
	less, stays := 0, 0
	for range 4000 {
		b := d.someBatch()
		for _, p := range b.Recipe {
			wantLess(t, b, p)
			seen[p.Kind]++
			if len(impl.RunThings(b, p.Then)) < len(impl.RunThings(b, p.Name)) {
				less++
			} else {
				stays++
			}
		}
	}
	if slices.Min(seen[1:]) < 1000 || less < 1000 || stays < 1000 {
		t.Errorf("too few of a sort: %v, %d become less, %d stay", seen, less, stays)
	}
}

// Along any way that a run goes, what may yet be needed becomes less, or stays, up to nothing at its end; each phase has
// what it needs of what may be needed from the first one on.
func TestPromise20AlongRuns(t *testing.T) {
	d := &dice{state: 43}
	longest := 0
	for range 3000 {
		b := d.okBatch(d.longRecipe(1+d.below(12)), d.namesUpTo(9))
		end, path := impl.RecRun(b.Recipe, d.saysFor(b.Recipe, len(b.Recipe)))
		longest = max(longest, len(path))
		all := impl.RunThings(b, b.Recipe[0].Name)
		ahead := all
		for _, at := range append(path, end.At) {
			things := impl.RunThings(b, at)
			if !ofByForm(things, ahead) || slices.Contains(things, "") {
				t.Fatalf("%s: at %s it may need %q, ahead of that %q", short(b), at, things, ahead)
			}
			ahead = things
			if b.At, b.Since = at, 0; at != end.At && !ofByForm(impl.RunOwn(b), all) {
				t.Fatalf("%s: at %s it needs %q, of %q", short(b), at, impl.RunOwn(b), all)
			}
		}
		if len(ahead) != 0 {
			t.Fatalf("%s: at its end it needs %q", short(b), ahead)
		}
	}
	if longest < 10 {
		t.Errorf("the longest run has %d phases", longest)
	}
}

// allThings is the things of all slots, ascending.
func allThings(slots []impl.RunSlot) []string {
	var all []string
	for _, s := range slots {
		all = append(all, s.Thing)
	}
	return sorted(all)
}

// Of promise 18: who begins needs the things of all slots.
func TestPromise18FirstPhaseNeedsAll(t *testing.T) {
	d := &dice{state: 44}
	most := 0
	for range 6000 {
		b := d.someBatch()
		want := allThings(b.Slots)
		if things := impl.RunThings(b, b.Recipe[0].Name); !slices.Equal(things, want) || len(things) != len(b.Slots) {
			t.Fatalf("%s: it may need %q, its slots are %q", short(b), things, want)
		}
		most = max(most, len(want))
	}
	for _, b := range []impl.RunBatch{wide(), brewing(nil), alone(phase(nil), "keg"), pouring("a", 1, "fill", -1, "tun", "keg")} {
		wantThings(t, b, b.Recipe[0].Name, allThings(b.Slots)...)
	}
	if most < 8 {
		t.Errorf("at most %d slots", most)
	}
}

// begun is a house with one batch more, that waits at its first phase: it comes last, needs the things of all its slots, and
// has none.
func begun(h impl.RunHouse, b impl.RunBatch) impl.RunHouse {
	h.Last++
	b.At, b.Since, b.Start = b.Recipe[0].Name, -1, h.Last
	h.Batches = append(slices.Clone(h.Batches), b)
	h.Share.Batches = append(slices.Clone(h.Share.Batches), batch(b.Name, nil, allThings(b.Slots)))
	inOrder(h.Share.Batches)
	return h
}

// Of promise 18: a house with one more that begins is ok, and RunLeft is more by RecBound of its recipe.
func TestPromise18RunLeftIsMoreByRecBound(t *testing.T) {
	d := &dice{state: 45}
	seen := [6]int{}
	for range 4000 {
		h := d.okHouse(1+d.below(8), d.below(5))
		b := d.housed(h.Share.Things)
		if b.Name = "new"; d.below(2) == 0 {
			b.Name = "0-new"
		}
		more := begun(h, b)
		if faults := wantHouseAsSaid(t, more); len(faults) > 0 {
			t.Fatalf("%s is broken in %q", short(more), faults)
		}
		seen[len(more.Batches)]++
		if got, want := impl.RunLeft(more), impl.RunLeft(h)+impl.RecBound(b.Recipe, b.Recipe[0].Name); got != want {
			t.Fatalf("RunLeft(%s) is %d, should be %d", short(more), got, want)
		}
		wantBegunLast(t, more, b.Name)
	}
	if slices.Min(seen[1:]) < 100 {
		t.Errorf("too few of a sort: %v", seen)
	}
}

// wantBegunLast: who begins is ok just as it comes: last, with Last as Start, and with all its needs.
func wantBegunLast(t *testing.T, h impl.RunHouse, name string) {
	t.Helper()
	for what, change := range map[string]func(one *impl.RunBatch, shared *impl.ShareBatch){
		"began later":    func(one *impl.RunBatch, _ *impl.ShareBatch) { one.Start++ },
		"began with 0":   func(one *impl.RunBatch, _ *impl.ShareBatch) { one.Start = 0 },
		"needs less":     func(_ *impl.RunBatch, shared *impl.ShareBatch) { shared.Needs = shared.Needs[1:] },
		"needs nothing":  func(_ *impl.RunBatch, shared *impl.ShareBatch) { shared.Needs = nil },
		"has it not yet": func(one *impl.RunBatch, _ *impl.ShareBatch) { one.Since = 0 },
	} {
		other := h
		other.Batches, other.Share.Batches = slices.Clone(h.Batches), slices.Clone(h.Share.Batches)
		change(&other.Batches[len(h.Batches)-1], &other.Share.Batches[slices.Index(batchNames(h.Share), name)])
		if impl.RunHouseOk(other) || impl.RunLeft(other) != 0 {
			t.Fatalf("%s: %s is ok", what, short(other))
		}
	}
	if len(h.Batches) > 1 {
		other := h
		other.Batches = slices.Concat(h.Batches[len(h.Batches)-1:], h.Batches[:len(h.Batches)-1])
		if impl.RunHouseOk(other) {
			t.Fatalf("the last one stands first: %s is ok", short(other))
		}
	}
}

// Each begins after the other, up to as many as there can be.
func TestPromise18OneAfterTheOther(t *testing.T) {
	h := nobody("cask", "keg", "tun", "vat")
	left := 0
	for i, b := range []impl.RunBatch{brewing(nil), pouring("a", 1, "fill", -1, "keg", "tun"), pouring("d", 1, "fill", -1, "tun", "keg"), alone(phase(nil), "vat"), pouring("c", 1, "fill", -1, "cask", "vat")} {
		if b.Name == "a" && i == 3 {
			b.Name = "0"
		}
		h = begun(h, b)
		left += impl.RecBound(b.Recipe, b.Recipe[0].Name)
		wantHouse(t, b.Name, h, left)
	}
	if left != 23+7+7+5+7 {
		t.Errorf("%d ticks are left", left)
	}
	wantHouseBroken(t, "share", begun(h, pouring("e", 1, "fill", -1, "cask", "vat")))
	h.Last = 1000000
	h.Batches, h.Share.Batches = h.Batches[:4], slices.Delete(slices.Clone(h.Share.Batches), 3, 4)
	wantHouseBroken(t, "last", begun(h, pouring("e", 1, "fill", -1, "cask", "vat")))
	h.Last--
	wantHouse(t, "the last one of all", begun(h, pouring("e", 1, "fill", -1, "cask", "vat")), left)
}

package tests

import (
	"fmt"
	"slices"
	"testing"

	"loop.example/maltrun/impl"
)

// slotted is slots with their things, in turn.
func slotted(pairs ...string) []impl.RunSlot {
	var slots []impl.RunSlot
	for i := 0; i < len(pairs); i += 2 {
		slots = append(slots, impl.RunSlot{Slot: pairs[i], Thing: pairs[i+1]})
	}
	return slots
}

// brewing is a batch of the recipe brew that waits at its first phase, changed as asked for. Its things are not in the order
// of its slots; s9, which is the slot of a phase that never comes, is none of these.
func brewing(change func(b *impl.RunBatch)) impl.RunBatch {
	b := impl.RunBatch{Name: "b", Recipe: brew(), Slots: slotted("s1", "vat", "s2", "keg", "s3", "tun", "s4", "cask"), At: "fill", Since: -1, Start: 1}
	if change != nil {
		change(&b)
	}
	return b
}

// brewingAt is a batch of the recipe brew, at a phase, for so many ticks.
func brewingAt(at string, since int) impl.RunBatch {
	return brewing(func(b *impl.RunBatch) { b.At, b.Since = at, since })
}

// alone is a batch that waits at the only phase of its recipe, with these things for its slots, in their order.
func alone(p impl.RecPhase, things ...string) impl.RunBatch {
	b := impl.RunBatch{Name: "a", Recipe: []impl.RecPhase{p}, At: p.Name, Since: -1, Start: 1}
	for i, slot := range slotsByForm(b.Recipe, p.Name) {
		b.Slots = append(b.Slots, impl.RunSlot{Slot: slot, Thing: things[i]})
	}
	return b
}

// wide is a batch of a recipe with as many slots as there can be: each of its phases moves from a slot of its own to another
// one. The things of its slots fall.
func wide() impl.RunBatch {
	r := chain(12)
	for i := range r {
		r[i].Kind, r[i].N = impl.RecMove, 1
		r[i].A, r[i].B = fmt.Sprintf("y%02d", i), fmt.Sprintf("x%02d", i)
	}
	b := impl.RunBatch{Name: "wide", Recipe: r, At: r[0].Name, Since: -1, Start: 1}
	for i, slot := range slotsByForm(r, r[0].Name) {
		b.Slots = append(b.Slots, impl.RunSlot{Slot: slot, Thing: fmt.Sprintf("t%02d", 23-i)})
	}
	return b
}

// comingByForm is the phase of a name, and all that may come behind it, of a recipe that is ok.
func comingByForm(r []impl.RecPhase, from string) []impl.RecPhase {
	come := map[string]bool{from: true}
	var all []impl.RecPhase
	for _, p := range r {
		if come[p.Name] {
			come[p.Then], come[p.Else] = true, true
			all = append(all, p)
		}
	}
	return all
}

// slotsByForm is the slots of the phase of a name, and of all that may come behind it, ascending.
func slotsByForm(r []impl.RecPhase, from string) []string {
	return sorted(way{phases: comingByForm(r, from)}.slots())
}

// thingOf is the thing of a slot; the empty text, if it is none of a batch's.
func thingOf(b impl.RunBatch, slot string) string {
	for _, s := range b.Slots {
		if s.Slot == slot {
			return s.Thing
		}
	}
	return ""
}

// thingsOf is the things of slots, each once, ascending.
func thingsOf(b impl.RunBatch, slots []string) []string {
	var things []string
	for _, slot := range slots {
		things = append(things, thingOf(b, slot))
	}
	return sorted(things)
}

// thingsByForm is by the document's words what RunThings of a batch that is ok should be.
func thingsByForm(b impl.RunBatch, from string) []string {
	return thingsOf(b, slotsByForm(b.Recipe, from))
}

// ownByForm is by the document's words what RunOwn of a batch that is ok should be.
func ownByForm(b impl.RunBatch) []string {
	at := slices.Index(phaseNames(b.Recipe), b.At)
	return thingsOf(b, way{phases: b.Recipe[at : at+1]}.slots())
}

// batchFaults is which parts of what makes a batch ok are broken, each looked at by itself. Where the recipe is, what hangs
// on it is not asked.
func batchFaults(b impl.RunBatch) []string {
	var faults []string
	must := func(part string, holds bool) {
		if !holds {
			faults = append(faults, part)
		}
	}
	must("name", nameForm.MatchString(b.Name))
	must("start", b.Start >= 1)
	things := map[string]bool{}
	var slots []string
	for _, s := range b.Slots {
		must("thing", nameForm.MatchString(s.Thing))
		must("things", !things[s.Thing])
		things[s.Thing] = true
		slots = append(slots, s.Slot)
	}
	if !recipeOkByForm(b.Recipe) {
		return append(faults, "recipe")
	}
	must("slots", slices.Equal(slots, slotsByForm(b.Recipe, b.Recipe[0].Name)))
	at := slices.Index(phaseNames(b.Recipe), b.At)
	must("at", at >= 0)
	if at >= 0 {
		must("since", b.Since >= -1 && b.Since <= b.Recipe[at].Within-1)
	}
	return faults
}

func batchOkByForm(b impl.RunBatch) bool {
	return len(batchFaults(b)) == 0
}

// short is the beginning of what is told of something.
func short(told any) string {
	return fmt.Sprintf("%.900s", fmt.Sprintf("%+v", told))
}

// wantThings holds what RunThings answers of a phase against what it should.
func wantThings(t *testing.T, b impl.RunBatch, from string, want ...string) {
	t.Helper()
	if things := impl.RunThings(b, from); !slices.Equal(things, want) {
		t.Errorf("RunThings(%s, %.20q) is %q, should be %q", short(b), from, things, want)
	}
}

// wantOwn holds what RunOwn answers against what it should.
func wantOwn(t *testing.T, b impl.RunBatch, want ...string) {
	t.Helper()
	if own := impl.RunOwn(b); !slices.Equal(own, want) {
		t.Errorf("RunOwn(%s) is %q, should be %q", short(b), own, want)
	}
}

// wantBatchAsSaid holds what the three functions answer of a batch against the document's words, from each of its phases, and
// from these names, and tells what is broken of it.
func wantBatchAsSaid(t *testing.T, b impl.RunBatch, names ...string) []string {
	t.Helper()
	faults := sorted(batchFaults(b))
	if ok := impl.RunBatchOk(b); ok != (len(faults) == 0) {
		t.Errorf("RunBatchOk(%s) is %v, it is broken in %q", short(b), ok, faults)
	}
	if len(faults) > 0 {
		wantNothingOf(t, b, names...)
	} else {
		wantOwn(t, b, ownByForm(b)...)
		for _, from := range append(phaseNames(b.Recipe), names...) {
			wantThings(t, b, from, thingsByForm(b, from)...)
		}
	}
	if t.Failed() {
		t.FailNow()
	}
	return faults
}

// wantNothingOf: nothing is told of a batch that is not ok, from whatever name.
func wantNothingOf(t *testing.T, b impl.RunBatch, names ...string) {
	t.Helper()
	wantOwn(t, b)
	for _, from := range append(phaseNames(b.Recipe[:min(20, len(b.Recipe))]), names...) {
		wantThings(t, b, from)
	}
}

// wantBroken: a batch is broken in one part alone, so it is not ok, and nothing is told of it.
func wantBroken(t *testing.T, part string, b impl.RunBatch) {
	t.Helper()
	if faults := sorted(batchFaults(b)); !slices.Equal(faults, texts(part)) {
		t.Errorf("%s is broken in %q, should be in %s", short(b), faults, part)
	}
	if impl.RunBatchOk(b) {
		t.Errorf("RunBatchOk(%s) is true", short(b))
	}
	wantNothingOf(t, b, "", "good", b.At)
}

// shuffled makes another order of a list.
func (d *dice) shuffled(list []string) []string {
	list = slices.Clone(list)
	for i := range list {
		other := i + d.below(len(list)-i)
		list[i], list[other] = list[other], list[i]
	}
	return list
}

// okBatch makes a batch that is ok, of a recipe that is, with some of these things for its slots, in any order.
func (d *dice) okBatch(r []impl.RecPhase, things []string) impl.RunBatch {
	b := impl.RunBatch{Name: pick(d, d.namesUpTo(4)), Recipe: r, Start: pick(d, []int{1, 2, 1 + d.below(1000), 1000000, 1<<63 - 1})}
	things = d.shuffled(things)
	for i, slot := range slotsByForm(r, r[0].Name) {
		b.Slots = append(b.Slots, impl.RunSlot{Slot: slot, Thing: things[i]})
	}
	d.stand(&b, pick(d, r))
	return b
}

// stand lets a batch be at a phase, waiting or not.
func (d *dice) stand(b *impl.RunBatch, p impl.RecPhase) {
	b.At = p.Name
	b.Since = pick(d, []int{-1, -1, 0, p.Within - 1, d.below(max(1, p.Within))})
}

// someBatch makes a batch that is ok, of any recipe.
func (d *dice) someBatch() impl.RunBatch {
	r := d.okRecipe()
	if d.below(3) == 0 {
		r = d.longRecipe(1 + d.below(12))
	}
	return d.okBatch(r, d.namesUpTo(9))
}

// spoilBatch changes one thing of a batch, mostly for the worse.
func (d *dice) spoilBatch(b impl.RunBatch) impl.RunBatch {
	b.Slots, b.Recipe = slices.Clone(b.Slots), slices.Clone(b.Recipe)
	switch d.below(8) {
	case 0:
		b.Name = pick(d, oddTexts)
	case 1:
		b.Recipe = d.spoil(b.Recipe)
	case 2, 3:
		b.Slots = d.spoilSlots(b.Slots)
	case 4:
		b.At = pick(d, append(phaseNames(b.Recipe), oddTexts...))
	case 5:
		b.Since = pick(d, append([]int{-2, -1, 0}, oddNumbers...))
	case 6:
		b.Start = pick(d, oddNumbers)
	default:
		if at := slices.Index(phaseNames(b.Recipe), b.At); at >= 0 {
			b.Since = b.Recipe[at].Within - d.below(2)
		}
	}
	return b
}

// spoilSlots changes one place of slots.
func (d *dice) spoilSlots(slots []impl.RunSlot) []impl.RunSlot {
	odd := impl.RunSlot{Slot: pick(d, oddTexts), Thing: pick(d, oddTexts)}
	if len(slots) == 0 {
		return append(slots, odd)
	}
	one, other := d.below(len(slots)), d.below(len(slots))
	switch d.below(7) {
	case 0:
		slots[one].Thing = odd.Thing
	case 1:
		slots[one].Slot = odd.Slot
	case 2:
		slots[one], slots[other] = slots[other], slots[one]
	case 3:
		slots[one].Thing = slots[other].Thing
	case 4:
		return slices.Insert(slots, one, slots[other])
	case 5:
		return append(slots, odd)
	default:
		return slices.Delete(slots, one, one+1)
	}
	return slots
}

// anyBatch makes a batch that may be ok, or not.
func (d *dice) anyBatch() impl.RunBatch {
	b := d.someBatch()
	for range d.below(3) {
		b = d.spoilBatch(b)
	}
	return b
}

// everyRecipe hands out each recipe of up to three phases, that are of any kind, of two slots, and go on to any later phase,
// or to an end.
func everyRecipe(each func(r []impl.RecPhase)) {
	ways := []impl.RecPhase{
		{Kind: impl.RecFill, A: "s1", B: "s2", N: 1}, {Kind: impl.RecFill, A: "s2", B: "s1", N: 1},
		{Kind: impl.RecMove, A: "s1", B: "s2", N: 1}, {Kind: impl.RecMove, A: "s2", B: "s1", N: 1},
		{Kind: impl.RecHold, A: "s1", N: 1}, {Kind: impl.RecHold, A: "s2", N: 1},
		{Kind: impl.RecClean, A: "s1"}, {Kind: impl.RecTest, A: "s2"},
	}
	var more func(later []impl.RecPhase)
	more = func(later []impl.RecPhase) {
		if len(later) > 0 {
			each(later)
		}
		if len(later) == 3 {
			return
		}
		on := append(phaseNames(later), ends[1+len(later)])
		for _, p := range ways {
			p.Name, p.Within = string(rune('c'-len(later))), 2
			for _, p.Then = range on {
				for _, p.Else = range on {
					more(append([]impl.RecPhase{p}, later...))
				}
			}
		}
	}
	more(nil)
}

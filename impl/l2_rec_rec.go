package impl

import "slices"

// recRow is what is told of a phase or an end.
type recRow[T any] struct {
	name string
	told T
}

// recTable is what is told of the ends and the phases of a recipe.
type recTable[T any] []recRow[T]

// of is what is told of a name; nothing, if it is neither an end nor a phase.
func (t recTable[T]) of(name string) T {
	for _, row := range t {
		if row.name == name {
			return row.told
		}
	}
	var nothing T
	return nothing
}

// recFillTable reckons what is told of each phase of a recipe that is ok. It
// goes from the last one back, so that all a phase goes on to is told of already.
func recFillTable[T any](r []RecPhase, ofEnd func(end int) T, ofPhase func(p RecPhase, then, other T) T) recTable[T] {
	var t recTable[T]
	for _, name := range recEndNames {
		t = append(t, recRow[T]{name: name, told: ofEnd(RecEnd(name))})
	}
	for i := len(r) - 1; i >= 0; i-- {
		p := r[i]
		told := ofPhase(p, t.of(p.Then), t.of(p.Else))
		t = append(t, recRow[T]{name: p.Name, told: told})
	}
	return t
}

// RecOk says whether a recipe is ok: from each phase it only goes on to later ones, or to an end.
func RecOk(r []RecPhase) bool {
	if len(r) < 1 || len(r) > RecMaxPhases {
		return false
	}
	for i, p := range r {
		later := r[i+1:]
		if !RecPhaseOk(p) || recHasPhase(later, p.Name) {
			return false
		}
		if !recGoesOn(later, p.Then) || !recGoesOn(later, p.Else) {
			return false
		}
	}
	return true
}

// RecSlots is the slots that may still be used from a phase on.
func RecSlots(r []RecPhase, from string) []string {
	if !RecOk(r) {
		return nil
	}
	return recFillTable(r, recEndSlots, recSlotsFrom).of(from)
}

// RecBound is within how many ticks a recipe comes to an end from a phase on.
func RecBound(r []RecPhase, from string) int {
	if !RecOk(r) {
		return 0
	}
	return recFillTable(r, recEndBound, recBoundFrom).of(from)
}

// RecCan says whether a recipe can come to an end from a phase on.
func RecCan(r []RecPhase, from string, end int) bool {
	if !RecOk(r) {
		return false
	}
	isIt := func(other int) bool { return other == end }
	return recFillTable(r, isIt, recEither).of(from)
}

// recPhaseOf is the first of the phases that has this Name; false, if none has it.
func recPhaseOf(phases []RecPhase, name string) (RecPhase, bool) {
	for _, p := range phases {
		if p.Name == name {
			return p, true
		}
	}
	return RecPhase{}, false
}

// recHasPhase says whether one of the phases has this Name.
func recHasPhase(phases []RecPhase, name string) bool {
	_, ok := recPhaseOf(phases, name)
	return ok
}

// recGoesOn says whether a phase may go on to a name, when these are the later ones.
func recGoesOn(later []RecPhase, name string) bool {
	return RecEnd(name) != 0 || recHasPhase(later, name)
}

func recEndSlots(int) []string {
	return nil
}

// recSlotsFrom always makes a list of its own: what was told of another phase is not to change.
func recSlotsFrom(p RecPhase, then, other []string) []string {
	all := slices.Concat(recPhaseSlots(p), then, other)
	slices.Sort(all)
	return slices.Compact(all)
}

func recEndBound(int) int {
	return 0
}

func recBoundFrom(p RecPhase, then, other int) int {
	return p.Within + max(then, other)
}

func recEither(_ RecPhase, then, other bool) bool {
	return then || other
}

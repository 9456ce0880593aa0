package impl

// Limits of recipes.
const (
	RecMaxName   = 8
	RecMaxPhases = 12
	RecMaxN      = 1000
	RecMaxWithin = 1000
)

// Kinds of phases.
const (
	RecFill  = 1
	RecMove  = 2
	RecHold  = 3
	RecClean = 4
	RecTest  = 5
)

// RecPhase is a phase: what is done, within how many ticks, and what comes then, or else.
type RecPhase struct {
	Name   string
	Kind   int
	A      string
	B      string
	N      int
	Within int
	Then   string
	Else   string
}

// recEndNames has the ends in the order of their numbers, the first of which is 1.
var recEndNames = [3]string{"good", "saved", "scrapped"}

// recWork is what is done in a phase. Each kind is a type of its own, and what
// not every kind has is asked by an assertion.
type recWork interface {
	slots() []string
}

// recPaired is work that has a B.
type recPaired interface {
	pairOk() bool
}

// recMeasured is work that has an N.
type recMeasured interface {
	mostN() int
}

type recFilling struct {
	slot  string
	stuff string
}

type recMoving struct {
	source string
	target string
}

type recHolding struct {
	slot   string
	within int
}

type recCleaning struct {
	slot string
}

type recTesting struct {
	slot string
}

func (w recFilling) slots() []string {
	return []string{w.slot}
}

func (w recMoving) slots() []string {
	return []string{w.source, w.target}
}

func (w recHolding) slots() []string {
	return []string{w.slot}
}

func (w recCleaning) slots() []string {
	return []string{w.slot}
}

func (w recTesting) slots() []string {
	return []string{w.slot}
}

func (w recFilling) pairOk() bool {
	return recNameOk(w.stuff)
}

func (w recMoving) pairOk() bool {
	return recNameOk(w.target) && w.target != w.source
}

func (w recFilling) mostN() int {
	return RecMaxN
}

func (w recMoving) mostN() int {
	return RecMaxN
}

// What is held for longer than the phase may take could never go well.
func (w recHolding) mostN() int {
	return w.within
}

// recWorkOf is the work of a phase; false, if its Kind is none of the five.
func recWorkOf(p RecPhase) (recWork, bool) {
	switch p.Kind {
	case RecFill:
		return recFilling{slot: p.A, stuff: p.B}, true
	case RecMove:
		return recMoving{source: p.A, target: p.B}, true
	case RecHold:
		return recHolding{slot: p.A, within: p.Within}, true
	case RecClean:
		return recCleaning{slot: p.A}, true
	case RecTest:
		return recTesting{slot: p.A}, true
	}
	return nil, false
}

// RecPhaseOk says whether a phase is ok alone.
func RecPhaseOk(p RecPhase) bool {
	if !recNameOk(p.Name) || RecEnd(p.Name) != 0 {
		return false
	}
	if p.Within < 1 || p.Within > RecMaxWithin {
		return false
	}
	return recWorkOk(p) && recNameOk(p.Then) && recNameOk(p.Else)
}

// RecEnd says whether a name is an end: 1 good, 2 saved, 3 scrapped, 0 none.
func RecEnd(name string) int {
	for i, end := range recEndNames {
		if name == end {
			return i + 1
		}
	}
	return 0
}

// recWorkOk says whether Kind, A, B and N of a phase are ok together.
func recWorkOk(p RecPhase) bool {
	w, ok := recWorkOf(p)
	return ok && recNameOk(p.A) && recPairOk(w, p.B) && recAmountOk(w, p.N)
}

func recPairOk(w recWork, b string) bool {
	if pair, ok := w.(recPaired); ok {
		return pair.pairOk()
	}
	return b == ""
}

func recAmountOk(w recWork, n int) bool {
	if measured, ok := w.(recMeasured); ok {
		return n >= 1 && n <= measured.mostN()
	}
	return n == 0
}

// recNameOk says whether a text is a name.
func recNameOk(text string) bool {
	if len(text) < 1 || len(text) > RecMaxName {
		return false
	}
	for _, c := range text {
		if !recNameRune(c) {
			return false
		}
	}
	return true
}

func recNameRune(c rune) bool {
	return c >= 'a' && c <= 'z' || c >= '0' && c <= '9' || c == '-'
}

// recPhaseSlots is the slots of a phase alone.
func recPhaseSlots(p RecPhase) []string {
	if w, ok := recWorkOf(p); ok {
		return w.slots()
	}
	return nil
}

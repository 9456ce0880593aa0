package tests

import (
	"fmt"
	"math"
	"testing"

	"loop.example/maltrun/impl"
)

func TestRecEndTellsTheThreeEnds(t *testing.T) {
	for text, want := range map[string]int{"good": 1, "saved": 2, "scrapped": 3, "": 0, "Good": 0, "good ": 0, "goo": 0, "goods": 0, "scrap": 0, "none": 0, "\xff": 0, "go\x00od": 0} {
		if got := impl.RecEnd(text); got != want {
			t.Errorf("RecEnd(%q) is %d, should be %d", text, got, want)
		}
	}
}

func TestRecPhaseOfEachKindIsOk(t *testing.T) {
	for _, p := range kinds() {
		wantOk(t, p.Name, impl.RecPhaseOk(p), true)
	}
	wantOk(t, "the empty phase", impl.RecPhaseOk(impl.RecPhase{}), false)
}

func TestRecPhaseOfNoKindIsNot(t *testing.T) {
	for _, kind := range []int{0, 6, -1, 7, 257, 1 << 32, math.MaxInt, math.MinInt} {
		for _, p := range kinds() {
			p.Kind = kind
			wantOk(t, fmt.Sprint(p), impl.RecPhaseOk(p), false)
		}
	}
}

// What each kind has: a phase is as ok as its B and its N are together.
func TestRecPhaseHasWhatItsKindHas(t *testing.T) {
	for _, p := range kinds() {
		hasB := p.Kind == impl.RecFill || p.Kind == impl.RecMove
		hasN := hasB || p.Kind == impl.RecHold
		for _, b := range []string{"", "malt"} {
			for _, n := range []int{-1, 0, 1} {
				p.B, p.N = b, n
				want := (b != "") == hasB && (n == 1) == hasN && n >= 0
				wantOk(t, fmt.Sprint(p), impl.RecPhaseOk(p), want)
			}
		}
	}
}

func TestRecPhaseMoveIsToAnotherSlot(t *testing.T) {
	p := kinds()[impl.RecMove-1]
	p.B = p.A
	wantOk(t, "a move to where it is", impl.RecPhaseOk(p), false)
	p = kinds()[impl.RecFill-1]
	p.B = p.A
	wantOk(t, "a stuff that is called like the slot", impl.RecPhaseOk(p), true)
}

func TestRecPhaseAmounts(t *testing.T) {
	for _, p := range kinds()[:2] {
		for n, want := range map[int]bool{0: false, 1: true, 11: true, 1000: true, 1001: false, -1: false, math.MaxInt: false, math.MinInt: false} {
			p.N = n
			wantOk(t, fmt.Sprint(p), impl.RecPhaseOk(p), want)
		}
	}
	p := kinds()[impl.RecHold-1]
	for _, within := range []int{1, 2, 999, 1000} {
		p.Within = within
		for n, want := range map[int]bool{0: false, 1: true, within: true, within + 1: false, -1: false, math.MaxInt: false} {
			p.N = n
			wantOk(t, fmt.Sprint(p), impl.RecPhaseOk(p), want)
		}
	}
}

func TestRecPhaseWithin(t *testing.T) {
	for _, p := range kinds() {
		if p.N > 0 {
			p.N = 1
		}
		for within, want := range map[int]bool{0: false, 1: true, 1000: true, 1001: false, -1: false, math.MaxInt: false, math.MinInt: false} {
			p.Within = within
			wantOk(t, fmt.Sprint(p), impl.RecPhaseOk(p), want)
		}
	}
}

// textFields puts a text into each of the fields of a phase that must be names.
func textFields(p impl.RecPhase, text string) map[string]impl.RecPhase {
	name, a, b, then, other := p, p, p, p, p
	name.Name, a.A, b.B, then.Then, other.Else = text, text, text, text, text
	fields := map[string]impl.RecPhase{"Name": name, "A": a, "Then": then, "Else": other}
	if p.B != "" {
		fields["B"] = b
	}
	return fields
}

func TestRecPhaseNames(t *testing.T) {
	texts := map[string]bool{"": false, "a": true, "z9-": true, "-": true, "0": true, "12345678": true, "123456789": false,
		"a b": false, " a": false, "a ": false, "A": false, "ab_c": false, "ä": false, "ab\xff": false, "\x00": false, "a\n": false, "abcdefg\xc3": false, "äöüä": false, "\u212a": false}
	for text, want := range texts {
		for _, p := range kinds() {
			for field, q := range textFields(p, text) {
				wantOk(t, fmt.Sprintf("%s %q in kind %d", field, text, p.Kind), impl.RecPhaseOk(q), want)
			}
		}
	}
}

func TestRecPhaseNamesOfEachByte(t *testing.T) {
	for c := range 256 {
		want := c >= 'a' && c <= 'z' || c >= '0' && c <= '9' || c == '-'
		for _, text := range []string{string([]byte{byte(c)}), string([]byte{'a', byte(c)}), string([]byte{byte(c), 'a'})} {
			for field, p := range textFields(kinds()[0], text) {
				wantOk(t, fmt.Sprintf("%s %q", field, text), impl.RecPhaseOk(p), want)
			}
		}
	}
}

// Only the Name of a phase may not be an end: slots and stuffs may be called like ends.
func TestRecPhaseCalledLikeAnEnd(t *testing.T) {
	for _, end := range ends[1:] {
		for _, p := range kinds() {
			for field, q := range textFields(p, end) {
				wantOk(t, fmt.Sprintf("%s %s in kind %d", field, end, p.Kind), impl.RecPhaseOk(q), field != "Name")
			}
		}
	}
}

// What a phase goes on to is not looked for in a phase alone: any name will do, its own too.
func TestRecPhaseAloneGoesOnToAnyName(t *testing.T) {
	p := phase(func(p *impl.RecPhase) { p.Then, p.Else = p.Name, "nowhere" })
	wantOk(t, fmt.Sprint(p), impl.RecPhaseOk(p), true)
}

func TestRecPhaseOkAsTheTableSays(t *testing.T) {
	d := &dice{state: 1}
	seen := map[bool]int{}
	for range 20000 {
		for _, p := range d.anyRecipe() {
			want := phaseOkByForm(p)
			seen[want]++
			if impl.RecPhaseOk(p) != want {
				t.Fatalf("RecPhaseOk(%q) should be %v", fmt.Sprint(p), want)
			}
		}
	}
	if seen[true] < 1000 || seen[false] < 1000 {
		t.Errorf("too few of a sort: %v", seen)
	}
}

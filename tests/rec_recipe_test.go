package tests

import (
	"fmt"
	"slices"
	"strings"
	"testing"

	"loop.example/maltrun/impl"
)

func TestRecOkOrdinary(t *testing.T) {
	wantOk(t, "brew", impl.RecOk(brew()), true)
	wantOk(t, "nil", impl.RecOk(nil), false)
	wantOk(t, "the empty recipe", impl.RecOk([]impl.RecPhase{}), false)
	wantOk(t, "the empty phase", impl.RecOk(make([]impl.RecPhase, 1)), false)
}

func TestRecOkCountsPhases(t *testing.T) {
	for n := range 15 {
		wantOk(t, fmt.Sprint(n, " phases"), impl.RecOk(chain(n)), n >= 1 && n <= 12)
	}
	wantOk(t, "very many", impl.RecOk(make([]impl.RecPhase, 100000)), false)
}

// Each phase counts, the first as the last, and those that nothing goes on to.
func TestRecOkAsksEachPhase(t *testing.T) {
	for i := range brew() {
		for what, change := range map[string]func(p *impl.RecPhase){
			"Kind":        func(p *impl.RecPhase) { p.Kind = 6 },
			"A":           func(p *impl.RecPhase) { p.A = "" },
			"Within":      func(p *impl.RecPhase) { p.Within = 1001 },
			"Name":        func(p *impl.RecPhase) { p.Name = "saved" },
			"Then nobody": func(p *impl.RecPhase) { p.Then = "nobody" },
			"Else nobody": func(p *impl.RecPhase) { p.Else = "nobody" },
			"Then empty":  func(p *impl.RecPhase) { p.Then = "" },
			"Else slot":   func(p *impl.RecPhase) { p.Else = "s1" },
		} {
			r := brew()
			change(&r[i])
			wantOk(t, fmt.Sprint(what, " of phase ", i), impl.RecOk(r), false)
		}
	}
}

func TestRecOkNamesAreNotTwice(t *testing.T) {
	for i := range 12 {
		for j := range i {
			r := chain(12)
			for k := range r {
				r[k].Then = "good"
			}
			wantOk(t, "all names differ", impl.RecOk(r), true)
			r[i].Name = r[j].Name
			wantOk(t, fmt.Sprint(i, " called like ", j), impl.RecOk(r), false)
		}
	}
}

func TestRecOkGoesOnToLaterPhasesAlone(t *testing.T) {
	for i := range 12 {
		for j := range 12 {
			r := chain(12)
			r[i].Then = r[j].Name
			wantOk(t, fmt.Sprint("Then of ", i, " is ", j), impl.RecOk(r), j > i)
			r = chain(12)
			r[i].Else = r[j].Name
			wantOk(t, fmt.Sprint("Else of ", i, " is ", j), impl.RecOk(r), j > i)
		}
	}
}

// Promise 8: a recipe of one phase is ok just if the phase is, and goes on to ends alone.
func TestPromise8OnePhase(t *testing.T) {
	names := append([]string{"look", "other", "", "Good", "goodd", "\xff"}, ends[1:]...)
	for _, p := range append(kinds(), impl.RecPhase{}, phase(func(p *impl.RecPhase) { p.Within = 0 }), phase(func(p *impl.RecPhase) { p.Kind = 9 })) {
		for _, then := range names {
			for _, other := range names {
				p.Then, p.Else = then, other
				want := impl.RecPhaseOk(p) && impl.RecEnd(then) != 0 && impl.RecEnd(other) != 0
				wantOk(t, fmt.Sprintf("%q", fmt.Sprint(p)), impl.RecOk([]impl.RecPhase{p}), want)
			}
		}
	}
	for _, p := range kinds() {
		wantOk(t, p.Name, impl.RecOk([]impl.RecPhase{p}), true)
	}
}

func TestRecOkAsTheDocumentSays(t *testing.T) {
	d := &dice{state: 2}
	seen := map[bool]int{}
	for range 30000 {
		r := d.anyRecipe()
		want := recipeOkByForm(r)
		seen[want]++
		if impl.RecOk(r) != want {
			t.Fatalf("RecOk(%q) should be %v", fmt.Sprint(r), want)
		}
	}
	if seen[true] < 1000 || seen[false] < 1000 {
		t.Errorf("too few of a sort: %v", seen)
	}
}

func wantTold(t *testing.T, r []impl.RecPhase, from string, slots []string, bound int, can [4]bool) {
	t.Helper()
	if got := impl.RecSlots(r, from); !slices.Equal(got, slots) {
		t.Errorf("RecSlots from %q is %q, should be %q", from, got, slots)
	}
	if got := impl.RecBound(r, from); got != bound {
		t.Errorf("RecBound from %q is %d, should be %d", from, got, bound)
	}
	for end := range can {
		if got := impl.RecCan(r, from, end); got != can[end] {
			t.Errorf("RecCan from %q to %d is %v, should be %v", from, end, got, can[end])
		}
	}
}

func TestRecToldOfABrew(t *testing.T) {
	r := brew()
	wantTold(t, r, "fill", []string{"s1", "s2", "s3", "s4"}, 23, [4]bool{false, true, true, true})
	wantTold(t, r, "odd", []string{"s1", "s3", "s9"}, 1007, [4]bool{false, true, true, true})
	wantTold(t, r, "hold", []string{"s1", "s2", "s3"}, 11, [4]bool{false, true, true, false})
	wantTold(t, r, "wash", []string{"s1", "s3", "s4"}, 13, [4]bool{false, true, true, true})
	wantTold(t, r, "move", []string{"s1", "s3"}, 7, [4]bool{false, true, true, false})
}

func TestRecToldOfEnds(t *testing.T) {
	wantTold(t, brew(), "good", nil, 0, [4]bool{false, true, false, false})
	wantTold(t, brew(), "saved", nil, 0, [4]bool{false, false, true, false})
	wantTold(t, brew(), "scrapped", nil, 0, [4]bool{false, false, false, true})
}

func TestRecToldOfWhatIsNoPhase(t *testing.T) {
	for _, from := range []string{"", "s1", "malt", "Fill", "fill ", "fil", "fills", "\xff", "nobody"} {
		wantTold(t, brew(), from, nil, 0, [4]bool{})
	}
}

func TestRecToldOfWhatIsNotOk(t *testing.T) {
	for _, r := range notOk() {
		for _, from := range []string{"fill", "move", "pa", "pl", "", "good", "saved", "scrapped"} {
			wantTold(t, r, from, nil, 0, [4]bool{})
		}
	}
}

func TestRecCanOfNoEnd(t *testing.T) {
	for _, end := range []int{0, 4, -1, 5, 33, 65, 257, 1<<32 + 1, 1<<63 - 1, -1 << 63} {
		for _, from := range []string{"fill", "move", "good", "saved", "scrapped", "", "nobody"} {
			if impl.RecCan(brew(), from, end) {
				t.Errorf("from %q it can come to the end %d, which is none", from, end)
			}
		}
	}
}

func TestRecToldAtTheLimits(t *testing.T) {
	r := chain(12)
	for i, p := range r {
		var slots []string
		for _, q := range r[i:] {
			slots = append(slots, q.A)
		}
		wantTold(t, r, p.Name, sorted(slots), 1000*(12-i), [4]bool{false, true, false, true})
	}
}

// The longest way is by ticks, not by phases.
func TestRecBoundTakesTheGreaterSum(t *testing.T) {
	r := chain(5)
	for i := range r {
		r[i].Within = 10
	}
	r[0].Else = "pe"
	r[4].Within = 1
	wantTold(t, r, "pa", []string{"sb", "sc", "sd", "se", "sf"}, 41, [4]bool{false, true, false, true})
	r[0].Then, r[0].Else = "pe", "pd"
	r[4].Within = 500
	r[3].Then, r[3].Else = "saved", "saved"
	wantTold(t, r, "pa", []string{"sb", "sc", "sf"}, 510, [4]bool{false, true, true, true})
	r[3].Within = 501
	wantTold(t, r, "pa", []string{"sb", "sc", "sf"}, 511, [4]bool{false, true, true, true})
}

// Slots and stuffs are no ends, and stuffs are no slots, whatever they are called.
func TestRecSlotsCalledLikeEnds(t *testing.T) {
	r := []impl.RecPhase{
		{Name: "a", Kind: impl.RecFill, A: "scrapped", B: "saved", N: 1, Within: 1, Then: "b", Else: "good"},
		{Name: "b", Kind: impl.RecMove, A: "scrapped", B: "good", N: 1, Within: 1, Then: "good", Else: "good"},
	}
	wantTold(t, r, "a", []string{"good", "scrapped"}, 2, [4]bool{false, true, false, false})
	wantTold(t, r, "saved", nil, 0, [4]bool{false, false, true, false})
	r[1].A = "a"
	wantTold(t, r, "a", []string{"a", "good", "scrapped"}, 2, [4]bool{false, true, false, false})
}

func TestRecSlotsAreInTheOrderOfBytes(t *testing.T) {
	r := chain(6)
	for i, slot := range []string{"s10", "s", "s1", "-", "0", "s-"} {
		r[i].A = slot
	}
	if got := fmt.Sprint(impl.RecSlots(r, "pa")); got != "[- 0 s s- s1 s10]" {
		t.Error(got)
	}
}

// Promise 4: RecBound is met by some run, and passed by none; RecSlots is just what runs use.
func TestPromise4BoundsAndSlotsAreThoseOfRuns(t *testing.T) {
	d := &dice{state: 4}
	for range 1500 {
		r := d.okRecipe()
		for _, from := range append(phaseNames(r), ends[1:]...) {
			most, used := 0, []string{}
			for _, w := range waysFrom(r, from) {
				most = max(most, w.ticks())
				used = sorted(append(used, w.slots()...))
			}
			if got := impl.RecBound(r, from); got != most {
				t.Fatalf("RecBound(%v, %q) is %d, the longest run takes %d", r, from, got, most)
			}
			if got := impl.RecSlots(r, from); !slices.Equal(got, used) {
				t.Fatalf("RecSlots(%v, %q) is %q, runs use %q", r, from, got, used)
			}
		}
	}
}

// Promise 5: RecCan tells just the ends that runs come to, and always one.
func TestPromise5EndsAreThoseOfRuns(t *testing.T) {
	d := &dice{state: 5}
	for range 1500 {
		r := d.okRecipe()
		for _, from := range append(phaseNames(r), ends[1:]...) {
			var come, told [4]bool
			for _, w := range waysFrom(r, from) {
				come[w.end] = true
			}
			for end := range told {
				told[end] = impl.RecCan(r, from, end)
			}
			if told != come || told == [4]bool{} {
				t.Fatalf("RecCan(%v, %q) tells %v, runs come to %v", r, from, told, come)
			}
		}
	}
}

// The document's example recipe, as README.md has it.
func TestRecToldOfTheExample(t *testing.T) {
	r := []impl.RecPhase{
		{Name: "fill", Kind: impl.RecFill, A: "s1", B: "malt", N: 5, Within: 3, Then: "go", Else: "scrapped"},
		{Name: "go", Kind: impl.RecMove, A: "s1", B: "s2", N: 5, Within: 4, Then: "good", Else: "saved"},
	}
	text := "fill fill s1 malt 5 within 3 then go else scrapped\ngo move s1 s2 5 within 4 then good else saved\n"
	wantOk(t, "the example", impl.RecOk(r), true)
	wantRecipe(t, "\n"+strings.Replace(text, "scrapped", "scrapped   # into the first slot", 1), r)
	if got := impl.RecPrint(r); got != text {
		t.Errorf("RecPrint is %q, should be %q", got, text)
	}
	wantTold(t, r, "fill", []string{"s1", "s2"}, 7, [4]bool{false, true, true, true})
	wantTold(t, r, "go", []string{"s1", "s2"}, 4, [4]bool{false, true, true, false})
}

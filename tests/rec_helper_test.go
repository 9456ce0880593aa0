package tests

import (
	"regexp"
	"slices"
	"strings"
	"testing"

	"loop.example/maltrun/impl"
)

// ends has the names of the ends by their numbers; no end has the number 0.
var ends = [4]string{"", "good", "saved", "scrapped"}

var nameForm = regexp.MustCompile(`^[a-z0-9-]{1,8}$`)

// phase is a RecTest that is ok alone and goes on to two ends, changed as asked for.
func phase(change func(p *impl.RecPhase)) impl.RecPhase {
	p := impl.RecPhase{Name: "look", Kind: impl.RecTest, A: "tun", Within: 5, Then: "good", Else: "scrapped"}
	if change != nil {
		change(&p)
	}
	return p
}

// kinds is a phase of each kind, ok alone, by its Kind.
func kinds() []impl.RecPhase {
	return []impl.RecPhase{
		{Name: "fill", Kind: impl.RecFill, A: "tun", B: "malt", N: 5, Within: 10, Then: "good", Else: "scrapped"},
		{Name: "move", Kind: impl.RecMove, A: "tun", B: "keg", N: 5, Within: 10, Then: "good", Else: "saved"},
		{Name: "hold", Kind: impl.RecHold, A: "tun", N: 5, Within: 10, Then: "saved", Else: "scrapped"},
		{Name: "clean", Kind: impl.RecClean, A: "tun", Within: 10, Then: "good", Else: "good"},
		{Name: "look", Kind: impl.RecTest, A: "tun", Within: 10, Then: "good", Else: "scrapped"},
	}
}

// brew is a recipe with a fork, two ways that meet again, and a phase (odd) that nothing goes on to.
func brew() []impl.RecPhase {
	return []impl.RecPhase{
		{Name: "fill", Kind: impl.RecFill, A: "s2", B: "malt", N: 5, Within: 10, Then: "hold", Else: "wash"},
		{Name: "odd", Kind: impl.RecTest, A: "s9", Within: 1000, Then: "move", Else: "scrapped"},
		{Name: "hold", Kind: impl.RecHold, A: "s2", N: 4, Within: 4, Then: "move", Else: "move"},
		{Name: "wash", Kind: impl.RecClean, A: "s4", Within: 6, Then: "move", Else: "scrapped"},
		{Name: "move", Kind: impl.RecMove, A: "s3", B: "s1", N: 1000, Within: 7, Then: "good", Else: "saved"},
	}
}

// chain is a recipe of n phases, each of which goes on to the next one, or fails.
func chain(n int) []impl.RecPhase {
	var r []impl.RecPhase
	for i := range n {
		p := phase(nil)
		p.Name = "p" + string(rune('a'+i))
		p.A = "s" + string(rune('a'+n-i))
		p.Within = 1000
		p.Then = "p" + string(rune('a'+i+1))
		r = append(r, p)
	}
	if n > 0 {
		r[n-1].Then = "good"
	}
	return r
}

// notOk is recipes that are not ok, each for another reason, that have phases all the same.
func notOk() [][]impl.RecPhase {
	back, twice, kind, late, long := brew(), brew(), brew(), brew(), brew()
	back[4].Else = "fill"
	twice[1].Name = "fill"
	kind[1].Kind = 0
	late[4].Within = 1001
	long[2].N = 5
	return [][]impl.RecPhase{nil, {}, make([]impl.RecPhase, 1), back, twice, kind, late, long, chain(13), make([]impl.RecPhase, 5000)}
}

// way is what one run comes by: its phases, and the number of its end.
type way struct {
	phases []impl.RecPhase
	end    int
}

func (w way) ticks() int {
	sum := 0
	for _, p := range w.phases {
		sum += p.Within
	}
	return sum
}

func (w way) slots() []string {
	var all []string
	for _, p := range w.phases {
		all = append(all, p.A)
		if p.Kind == impl.RecMove {
			all = append(all, p.B)
		}
	}
	return all
}

// waysFrom goes every way that a run can go from a phase of a recipe that is ok: well or badly at each one.
func waysFrom(r []impl.RecPhase, from string) []way {
	if e := slices.Index(ends[1:], from); e >= 0 {
		return []way{{end: e + 1}}
	}
	i := slices.IndexFunc(r, func(p impl.RecPhase) bool { return p.Name == from })
	if i < 0 {
		return nil
	}
	var all []way
	for _, next := range []string{r[i].Then, r[i].Else} {
		for _, w := range waysFrom(r, next) {
			all = append(all, way{phases: append([]impl.RecPhase{r[i]}, w.phases...), end: w.end})
		}
	}
	return all
}

// phaseOkByForm says by the document's table whether a phase is ok alone.
func phaseOkByForm(p impl.RecPhase) bool {
	if !nameForm.MatchString(p.Name) || slices.Contains(ends[1:], p.Name) || !nameForm.MatchString(p.A) {
		return false
	}
	if p.Within < 1 || p.Within > 1000 || !nameForm.MatchString(p.Then) || !nameForm.MatchString(p.Else) {
		return false
	}
	switch p.Kind {
	case 1:
		return nameForm.MatchString(p.B) && p.N >= 1 && p.N <= 1000
	case 2:
		return nameForm.MatchString(p.B) && p.A != p.B && p.N >= 1 && p.N <= 1000
	case 3:
		return p.B == "" && p.N >= 1 && p.N <= p.Within
	}
	return (p.Kind == 4 || p.Kind == 5) && p.B == "" && p.N == 0
}

// recipeOkByForm says by the document's words whether a recipe is ok.
func recipeOkByForm(r []impl.RecPhase) bool {
	places := map[string]int{"good": 99, "saved": 99, "scrapped": 99}
	for i, p := range r {
		if _, there := places[p.Name]; there || !phaseOkByForm(p) {
			return false
		}
		places[p.Name] = i
	}
	for i, p := range r {
		// a name that is not there has the place 0, which is never later
		if places[p.Then] <= i || places[p.Else] <= i {
			return false
		}
	}
	return len(r) >= 1 && len(r) <= 12
}

// dice gives numbers that look like none in particular, the same ones in every run of the tests.
type dice struct {
	state uint64
}

func (d *dice) below(n int) int {
	d.state = d.state*6364136223846793005 + 1442695040888963407
	return int(d.state>>33) % n
}

func pick[T any](d *dice, of []T) T {
	return of[d.below(len(of))]
}

// okRecipe makes a recipe that is ok.
func (d *dice) okRecipe() []impl.RecPhase {
	names := []string{"a", "b", "c-1", "d", "e", "f", "g", "h", "i", "j", "0", "longname"}
	slots := []string{"s1", "s2", "s3", "s", "s11", "good", "a", "-"}
	r := make([]impl.RecPhase, 1+d.below(12))
	for i := range r {
		on := append(slices.Clone(names[i+1:len(r)]), ends[1:]...)
		p := impl.RecPhase{Name: names[i], Kind: 1 + d.below(5), A: pick(d, slots), Within: 1 + d.below(1000), Then: pick(d, on), Else: pick(d, on)}
		switch p.Kind {
		case impl.RecFill:
			p.B, p.N = pick(d, []string{"malt", "s1", "saved"}), 1+d.below(1000)
		case impl.RecMove:
			p.B, p.N = pick(d, slots), 1+d.below(1000)
			if p.B == p.A {
				p.B = "other"
			}
		case impl.RecHold:
			p.N = 1 + d.below(p.Within)
		}
		r[i] = p
	}
	return r
}

var oddTexts = []string{"", "a", "b", "good", "saved", "scrapped", "Good", "12345678", "123456789", "a b", "a\n", "\x00", "\xff", "a\xc3", "ä", "\u212a", strings.Repeat("a", 5000), strings.Repeat("\xff", 300), "s1", "-", "--------"}

var oddNumbers = []int{0, 1, 2, 3, 4, 5, 6, -1, 7, 999, 1000, 1001, -1000, 1 << 31, 1<<63 - 1, -1 << 63}

// spoil changes one thing of a recipe, mostly for the worse.
func (d *dice) spoil(r []impl.RecPhase) []impl.RecPhase {
	if len(r) == 0 {
		return make([]impl.RecPhase, 1)
	}
	p := &r[d.below(len(r))]
	switch d.below(11) {
	case 0:
		p.Name = pick(d, oddTexts)
	case 1:
		p.A = pick(d, oddTexts)
	case 2:
		p.B = pick(d, oddTexts)
	case 3:
		p.Then = pick(d, oddTexts)
	case 4:
		p.Else = pick(d, oddTexts)
	case 5:
		p.Kind = pick(d, oddNumbers)
	case 6:
		p.N = pick(d, oddNumbers)
	case 7:
		p.Within = pick(d, oddNumbers)
	case 8:
		p.Then = r[d.below(len(r))].Name
	case 9:
		return append(r, phase(func(q *impl.RecPhase) { q.Name = pick(d, []string{"x", "a", "y"}) }))
	default:
		return slices.Delete(r, 0, 1)
	}
	return r
}

// anyRecipe makes a recipe that may be ok, or not.
func (d *dice) anyRecipe() []impl.RecPhase {
	r := d.okRecipe()
	for range d.below(4) {
		r = d.spoil(r)
	}
	return r
}

// phaseNames is the names of the phases of a recipe.
func phaseNames(r []impl.RecPhase) []string {
	var all []string
	for _, p := range r {
		all = append(all, p.Name)
	}
	return all
}

// sorted is a list's texts, each once, ascending.
func sorted(list []string) []string {
	list = slices.Clone(list)
	slices.Sort(list)
	return slices.Compact(list)
}

func wantOk(t *testing.T, what string, got, want bool) {
	t.Helper()
	if got != want {
		t.Errorf("%s: ok is %v, should be %v", what, got, want)
	}
}

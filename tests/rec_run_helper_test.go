package tests

import (
	"slices"
	"testing"

	"loop.example/maltrun/impl"
)

const (
	mostTicks  = 1<<63 - 1
	leastTicks = -1 << 63
)

// boundByForm is the greatest sum of Within from a name on, of a recipe that is ok.
func boundByForm(r []impl.RecPhase, from string) int {
	for i, p := range r {
		if p.Name == from {
			return p.Within + max(boundByForm(r[i+1:], p.Then), boundByForm(r[i+1:], p.Else))
		}
	}
	return 0
}

// wentByForm is how many ticks a phase takes by the document's words, and whether it goes well.
func wentByForm(p impl.RecPhase, say impl.RecSay) (int, bool) {
	switch {
	case say.Ticks > p.Within:
		return p.Within, false
	case say.Well && p.Kind == 3 && say.Ticks < p.N:
		return p.N, true
	case say.Ticks < 0:
		return 0, say.Well
	}
	return say.Ticks, say.Well
}

// goByForm lets a phase go by the document's words.
func goByForm(r []impl.RecPhase, s impl.RecState, say impl.RecSay) (impl.RecState, bool) {
	i := slices.Index(phaseNames(r), s.At)
	if !recipeOkByForm(r) || i < 0 || s.Now < 0 || s.Now > 12000 {
		return s, false
	}
	ticks, well := wentByForm(r[i], say)
	on := map[bool]string{true: r[i].Then, false: r[i].Else}[well]
	return impl.RecState{At: on, Now: s.Now + ticks, Left: boundByForm(r, on)}, true
}

// runByForm lets a run go by the document's words.
func runByForm(r []impl.RecPhase, says []impl.RecSay) (impl.RecState, []string) {
	if !recipeOkByForm(r) {
		return impl.RecState{}, nil
	}
	s := impl.RecState{At: r[0].Name, Left: boundByForm(r, r[0].Name)}
	var path []string
	for !slices.Contains(ends[1:], s.At) {
		say := impl.RecSay{Ticks: mostTicks, Well: true}
		if len(path) < len(says) {
			say = says[len(path)]
		}
		path = append(path, s.At)
		s, _ = goByForm(r, s, say)
	}
	return s, path
}

// longRecipe makes a recipe that is ok, of n phases, each of which mostly goes on to the next one.
func (d *dice) longRecipe(n int) []impl.RecPhase {
	r := d.okRecipe()
	for len(r) < n {
		r = d.okRecipe()
	}
	r = r[:n]
	for i := range r {
		next := append(phaseNames(r[i+1:]), ends[1:]...)
		r[i].Then = next[0]
		r[i].Else = pick(d, next)
		if d.below(8) == 0 {
			r[i].Then, r[i].Else = r[i].Else, r[i].Then
		}
	}
	return r
}

// ticksOf makes ticks at the edges of a phase, or between them.
func (d *dice) ticksOf(p impl.RecPhase) int {
	return pick(d, []int{leastTicks, -1, 0, 1, p.N - 1, p.N, p.N + 1, p.Within - 1, p.Within, p.Within, p.Within + 1, 1000, 1001, mostTicks, d.below(p.Within), d.below(p.Within)})
}

// saysFor makes n says for phases of a recipe. Most go well, and few take too long, so that some runs are long.
func (d *dice) saysFor(r []impl.RecPhase, n int) []impl.RecSay {
	var says []impl.RecSay
	for range n {
		ticks := d.below(2)
		if d.below(3) == 0 {
			ticks = d.ticksOf(pick(d, r))
		}
		says = append(says, impl.RecSay{Ticks: ticks, Well: d.below(8) != 0})
	}
	return says
}

// sayAll makes a say for each of n phases, well where the bits of well are set, all of them behind so many ticks.
func sayAll(n, well, ticks int) []impl.RecSay {
	var says []impl.RecSay
	for i := range n {
		says = append(says, impl.RecSay{Ticks: ticks, Well: well>>i&1 == 1})
	}
	return says
}

// wantGo holds what RecGo answers against a state and whether it goes.
func wantGo(t *testing.T, r []impl.RecPhase, s impl.RecState, say impl.RecSay, want impl.RecState, goes bool) {
	t.Helper()
	if got, ok := impl.RecGo(r, s, say); got != want || ok != goes {
		t.Errorf("RecGo(%.300v, %v, %v) is %v and %v, should be %v and %v", r, s, say, got, ok, want, goes)
	}
}

// wantRun holds what RecRun answers against where a run ends, and its phases.
func wantRun(t *testing.T, r []impl.RecPhase, says []impl.RecSay, at string, now int, path ...string) {
	t.Helper()
	s, was := impl.RecRun(r, says)
	if want := (impl.RecState{At: at, Now: now}); s != want || !slices.Equal(was, path) {
		t.Errorf("RecRun(%.300v, %.100v) is %v and %q, should be %v and %q", r, says, s, was, want, path)
	}
}

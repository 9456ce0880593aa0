package tests

import (
	"fmt"
	"slices"
	"testing"

	"loop.example/maltrun/impl"
)

func TestRecBegin(t *testing.T) {
	wantBegin(t, brew(), impl.RecState{At: "fill", Left: 23})
	for _, p := range kinds() {
		wantBegin(t, []impl.RecPhase{p}, impl.RecState{At: p.Name, Left: 10})
	}
	for n := 1; n <= 12; n++ {
		wantBegin(t, chain(n), impl.RecState{At: "pa", Left: 1000 * n})
	}
	for _, r := range notOk() {
		wantBegin(t, r, impl.RecState{})
	}
}

func wantBegin(t *testing.T, r []impl.RecPhase, want impl.RecState) {
	t.Helper()
	if got := impl.RecBegin(r); got != want {
		t.Errorf("RecBegin(%.300v) is %v, should be %v", r, got, want)
	}
}

// A phase that holds nothing takes its ticks, whether it goes well or not.
func TestRecGoTicks(t *testing.T) {
	for _, p := range kinds() {
		if p.Kind == impl.RecHold {
			continue
		}
		r := []impl.RecPhase{p}
		s := impl.RecState{At: p.Name, Left: 10}
		for said, takes := range map[int]int{leastTicks: 0, -1: 0, 0: 0, 1: 1, 4: 4, 5: 5, 6: 6, 9: 9, 10: 10} {
			wantGo(t, r, s, impl.RecSay{Ticks: said, Well: true}, impl.RecState{At: p.Then, Now: takes}, true)
			wantGo(t, r, s, impl.RecSay{Ticks: said}, impl.RecState{At: p.Else, Now: takes}, true)
		}
		for _, said := range []int{11, 12, 1000, 1001, mostTicks} {
			wantGo(t, r, s, impl.RecSay{Ticks: said, Well: true}, impl.RecState{At: p.Else, Now: 10}, true)
			wantGo(t, r, s, impl.RecSay{Ticks: said}, impl.RecState{At: p.Else, Now: 10}, true)
		}
	}
}

// What is held well is held for its 5; what is not well ends when it is said to.
func TestRecGoHolds(t *testing.T) {
	r := kinds()[impl.RecHold-1 : impl.RecHold]
	s := impl.RecState{At: "hold", Left: 10}
	for said, takes := range map[int]int{leastTicks: 5, -1: 5, 0: 5, 1: 5, 4: 5, 5: 5, 6: 6, 9: 9, 10: 10} {
		wantGo(t, r, s, impl.RecSay{Ticks: said, Well: true}, impl.RecState{At: "saved", Now: takes}, true)
	}
	for said, takes := range map[int]int{leastTicks: 0, -1: 0, 0: 0, 1: 1, 4: 4, 5: 5, 6: 6, 10: 10, 11: 10, mostTicks: 10} {
		wantGo(t, r, s, impl.RecSay{Ticks: said}, impl.RecState{At: "scrapped", Now: takes}, true)
	}
	for _, said := range []int{11, 12, 1001, mostTicks} {
		wantGo(t, r, s, impl.RecSay{Ticks: said, Well: true}, impl.RecState{At: "scrapped", Now: 10}, true)
	}
}

// An N that is just Within, the least one and the greatest one.
func TestRecGoHoldsUpToWithin(t *testing.T) {
	for _, n := range []int{1, 10, 1000} {
		r := []impl.RecPhase{phase(func(p *impl.RecPhase) { p.Kind, p.N, p.Within = impl.RecHold, n, n })}
		s := impl.RecState{At: "look", Left: n}
		for _, said := range []int{leastTicks, 0, n - 1, n} {
			wantGo(t, r, s, impl.RecSay{Ticks: said, Well: true}, impl.RecState{At: "good", Now: n}, true)
		}
		wantGo(t, r, s, impl.RecSay{Ticks: n + 1, Well: true}, impl.RecState{At: "scrapped", Now: n}, true)
		wantGo(t, r, s, impl.RecSay{Ticks: n - 1}, impl.RecState{At: "scrapped", Now: n - 1}, true)
	}
}

// An amount of fill or move is no time: it is not waited for, and may be more than Within.
func TestRecGoAmountsAreNotHeld(t *testing.T) {
	for _, p := range kinds()[:2] {
		p.N = 1000
		wantGo(t, []impl.RecPhase{p}, impl.RecState{At: p.Name}, impl.RecSay{Ticks: 3, Well: true}, impl.RecState{At: "good", Now: 3}, true)
	}
}

func TestRecGoFromEachPhase(t *testing.T) {
	r := brew()
	for _, c := range []struct{ from, well, badly impl.RecState }{
		{impl.RecState{At: "fill"}, impl.RecState{At: "hold", Now: 4, Left: 11}, impl.RecState{At: "wash", Now: 4, Left: 13}},
		{impl.RecState{At: "odd"}, impl.RecState{At: "move", Now: 4, Left: 7}, impl.RecState{At: "scrapped", Now: 4}},
		{impl.RecState{At: "hold"}, impl.RecState{At: "move", Now: 4, Left: 7}, impl.RecState{At: "move", Now: 4, Left: 7}},
		{impl.RecState{At: "wash"}, impl.RecState{At: "move", Now: 4, Left: 7}, impl.RecState{At: "scrapped", Now: 4}},
		{impl.RecState{At: "move"}, impl.RecState{At: "good", Now: 4}, impl.RecState{At: "saved", Now: 4}},
	} {
		wantGo(t, r, c.from, impl.RecSay{Ticks: 4, Well: true}, c.well, true)
		wantGo(t, r, c.from, impl.RecSay{Ticks: 4}, c.badly, true)
	}
}

func TestRecGoNow(t *testing.T) {
	for _, now := range []int{0, 1, 11999, 12000} {
		s := impl.RecState{At: "fill", Now: now, Left: 23}
		wantGo(t, brew(), s, impl.RecSay{Ticks: 3, Well: true}, impl.RecState{At: "hold", Now: now + 3, Left: 11}, true)
		wantGo(t, brew(), s, impl.RecSay{Ticks: 11, Well: true}, impl.RecState{At: "wash", Now: now + 10, Left: 13}, true)
	}
	for _, now := range []int{leastTicks, -12000, -1, 12001, 13000, mostTicks} {
		s := impl.RecState{At: "fill", Now: now, Left: 23}
		wantGo(t, brew(), s, impl.RecSay{Ticks: 3, Well: true}, s, false)
		wantGo(t, brew(), s, impl.RecSay{Ticks: leastTicks}, s, false)
		wantGo(t, brew(), s, impl.RecSay{Ticks: mostTicks}, s, false)
	}
}

// What the state says to be left is not asked; what is told is always RecBound.
func TestRecGoLeft(t *testing.T) {
	for _, left := range []int{leastTicks, -1, 0, 1, 22, 23, 24, mostTicks} {
		s := impl.RecState{At: "fill", Now: 2, Left: left}
		wantGo(t, brew(), s, impl.RecSay{Ticks: 3, Well: true}, impl.RecState{At: "hold", Now: 5, Left: 11}, true)
		s.Now = -1
		wantGo(t, brew(), s, impl.RecSay{Ticks: 3, Well: true}, s, false)
	}
}

func TestRecGoFromWhatIsNoPhase(t *testing.T) {
	for _, at := range []string{"", "good", "saved", "scrapped", "nobody", "s1", "malt", "Fill", "fill ", "fil", "fills", "\xff"} {
		for _, say := range []impl.RecSay{{}, {Well: true}, {Ticks: 3, Well: true}, {Ticks: mostTicks}} {
			s := impl.RecState{At: at, Now: 7, Left: 9}
			wantGo(t, brew(), s, say, s, false)
			wantGo(t, brew(), impl.RecState{At: at}, say, impl.RecState{At: at}, false)
		}
	}
}

func TestRecGoOfWhatIsNotOk(t *testing.T) {
	for _, r := range notOk() {
		for _, at := range []string{"fill", "odd", "move", "pa", "pl", "", "good"} {
			s := impl.RecState{At: at, Now: 7, Left: 9}
			wantGo(t, r, s, impl.RecSay{Ticks: 1, Well: true}, s, false)
			wantGo(t, r, impl.RecState{}, impl.RecSay{}, impl.RecState{}, false)
		}
	}
}

func TestRecRunOfABrew(t *testing.T) {
	r := brew()
	well, badly, late := impl.RecSay{Ticks: 2, Well: true}, impl.RecSay{Ticks: 2}, impl.RecSay{Ticks: 1001, Well: true}
	wantRun(t, r, nil, "scrapped", 16, "fill", "wash")
	wantRun(t, r, []impl.RecSay{}, "scrapped", 16, "fill", "wash")
	wantRun(t, r, []impl.RecSay{well}, "saved", 2+4+7, "fill", "hold", "move")
	wantRun(t, r, []impl.RecSay{well, well}, "saved", 2+4+7, "fill", "hold", "move")
	wantRun(t, r, []impl.RecSay{well, well, well}, "good", 2+4+2, "fill", "hold", "move")
	wantRun(t, r, []impl.RecSay{well, well, well, badly, late}, "good", 2+4+2, "fill", "hold", "move")
	wantRun(t, r, []impl.RecSay{well, badly, well}, "good", 2+2+2, "fill", "hold", "move")
	wantRun(t, r, []impl.RecSay{well, late, badly}, "saved", 2+4+2, "fill", "hold", "move")
	wantRun(t, r, []impl.RecSay{badly, well, well, well}, "good", 2+2+2, "fill", "wash", "move")
	wantRun(t, r, []impl.RecSay{badly, badly, well}, "scrapped", 2+2, "fill", "wash")
	wantRun(t, r, []impl.RecSay{late, late, late}, "scrapped", 16, "fill", "wash")
	wantRun(t, r, []impl.RecSay{late, well, late}, "saved", 10+2+7, "fill", "wash", "move")
}

// A chain goes on for as long as it goes well, up to twelve phases of a thousand ticks.
func TestRecRunOfAChain(t *testing.T) {
	for n := 1; n <= 12; n++ {
		names := phaseNames(chain(n))
		for well := range n {
			says := sayAll(well, 1<<well-1, 1000)
			wantRun(t, chain(n), says, "scrapped", 1000*(well+1), names[:well+1]...)
			wantRun(t, chain(n), append(says, impl.RecSay{Ticks: 5}), "scrapped", 1000*well+5, names[:well+1]...)
		}
		wantRun(t, chain(n), sayAll(n, 1<<n-1, 1000), "good", 1000*n, names...)
		wantRun(t, chain(n), sayAll(40, 1<<40-1, 1000), "good", 1000*n, names...)
		wantRun(t, chain(n), sayAll(n, 1<<n-1, leastTicks), "good", 0, names...)
		wantRun(t, chain(n), sayAll(n, 1<<n-1, 1001), "scrapped", 1000, "pa")
		wantRun(t, chain(n), sayAll(n, 1<<n-1, mostTicks), "scrapped", 1000, "pa")
	}
}

// When there are no says left, a phase takes all its ticks and goes badly, also one that is held.
func TestRecRunWithoutSays(t *testing.T) {
	for _, p := range kinds() {
		wantRun(t, []impl.RecPhase{p}, nil, p.Else, 10, p.Name)
		p.Within = 1000
		wantRun(t, []impl.RecPhase{p}, nil, p.Else, 1000, p.Name)
	}
}

func TestRecRunOfWhatIsNotOk(t *testing.T) {
	for _, r := range notOk() {
		wantRun(t, r, nil, "", 0)
		wantRun(t, r, []impl.RecSay{{Ticks: 1, Well: true}, {Ticks: 1, Well: true}}, "", 0)
	}
}

// Says that no phase is left for are not looked at, however many there are.
func TestRecRunWithVeryManySays(t *testing.T) {
	says := make([]impl.RecSay, 1_000_000)
	says[0].Well, says[1].Well = true, true
	wantRun(t, chain(12), says, "scrapped", 0, "pa", "pb", "pc")
}

// The document's example recipe, as README.md has it.
func TestRecRunOfTheExample(t *testing.T) {
	r, _ := impl.RecParse("fill fill s1 malt 5 within 3 then go else scrapped\ngo move s1 s2 5 within 4 then good else saved\n")
	s := impl.RecBegin(r)
	if s != (impl.RecState{At: "fill", Now: 0, Left: 7}) {
		t.Error(s)
	}
	wantGo(t, r, s, impl.RecSay{Ticks: 2, Well: true}, impl.RecState{At: "go", Now: 2, Left: 4}, true)
	wantGo(t, r, s, impl.RecSay{Ticks: 9, Well: true}, impl.RecState{At: "scrapped", Now: 3}, true)
	wantRun(t, r, []impl.RecSay{{Ticks: 2, Well: true}}, "saved", 6, "fill", "go")
}

// RecRun is RecGo from RecBegin on, and both are as the document says, whatever goes how.
func TestRecRunAsTheDocumentSays(t *testing.T) {
	d := &dice{state: 12}
	var few, just, more int
	var long [13]int
	for range 10000 {
		r := d.longRecipe(1 + d.below(12))
		says := d.saysFor(r, d.below(16))
		want, path := runByForm(r, says)
		s, was := impl.RecRun(r, says)
		if s != want || !slices.Equal(was, path) {
			t.Fatalf("RecRun(%v, %v) is %v and %q, should be %v and %q", r, says, s, was, want, path)
		}
		long[len(path)]++
		switch {
		case len(says) < len(path):
			few++
		case len(says) == len(path):
			just++
		default:
			more++
		}
	}
	if few < 200 || just < 200 || more < 200 || slices.Min(long[1:]) < 5 {
		t.Errorf("too few of a sort: %d %d %d, %v", few, just, more, long)
	}
}

// walk goes from RecBegin by RecGo, and answers with all states, the end's last.
func walk(t *testing.T, r []impl.RecPhase, says []impl.RecSay) []impl.RecState {
	states := []impl.RecState{impl.RecBegin(r)}
	for i := 0; impl.RecEnd(states[i].At) == 0; i++ {
		say := impl.RecSay{Ticks: 1001}
		if i < len(says) {
			say = says[i]
		}
		s, ok := impl.RecGo(r, states[i], say)
		if !ok || i == 12 {
			t.Fatalf("%v does not go on from %v", r, states[i])
		}
		states = append(states, s)
	}
	return states
}

// Promises 1, 2 and 3, of many recipes and many ways in which they go.
func TestPromises1To3OfRuns(t *testing.T) {
	d := &dice{state: 13}
	for i := range 4000 {
		r := d.longRecipe(1 + i%12)
		says := d.saysFor(r, d.below(15))
		states := walk(t, r, says)
		s, path := impl.RecRun(r, says)
		if last := states[len(states)-1]; s != last || len(path) != len(states)-1 {
			t.Fatalf("RecRun(%v, %v) is %v and %q, RecGo comes by %v", r, says, s, path, states)
		}
		for i, name := range path {
			if states[i].At != name {
				t.Fatalf("RecRun(%v, %v) was at %q, RecGo at %v", r, says, path, states)
			}
		}
		wantEnd(t, r, s)
		wantInTime(t, r, states)
		wantFewerSlots(t, r, states)
		if t.Failed() {
			t.Fatalf("RecRun(%v, %v)", r, says)
		}
	}
}

// Promise 1: a run ends as RecCan told.
func wantEnd(t *testing.T, r []impl.RecPhase, s impl.RecState) {
	t.Helper()
	if end := impl.RecEnd(s.At); end == 0 || !impl.RecCan(r, r[0].Name, end) {
		t.Errorf("a run ends at %q, which was not told of", s.At)
	}
}

// Promise 2: a run ends within its bound, and is never further from its end than it was.
func wantInTime(t *testing.T, r []impl.RecPhase, states []impl.RecState) {
	t.Helper()
	for i, s := range states {
		if s.Left != impl.RecBound(r, s.At) || s.Now < 0 || s.Left < 0 {
			t.Errorf("at %v there are %d left", s, impl.RecBound(r, s.At))
		}
		if i > 0 && s.Now+s.Left > states[i-1].Now+states[i-1].Left {
			t.Errorf("%v is later than %v", s, states[i-1])
		}
	}
	if last := states[len(states)-1]; last.Now > impl.RecBound(r, r[0].Name) || last.Left != 0 {
		t.Errorf("the end %v comes behind %d", last, impl.RecBound(r, r[0].Name))
	}
}

// Promise 3: what may still be used never becomes more.
func wantFewerSlots(t *testing.T, r []impl.RecPhase, states []impl.RecState) {
	t.Helper()
	for i, s := range states[1:] {
		ahead := impl.RecSlots(r, states[i].At)
		for _, slot := range impl.RecSlots(r, s.At) {
			if !slices.Contains(ahead, slot) {
				t.Errorf("at %v %q may be used, which could not be at %v", s, slot, states[i])
			}
		}
	}
}

// Promises 4 and 5, by runs: going every way, each bound is met, each slot used, each end come to, and no other.
func TestPromises4And5OfRuns(t *testing.T) {
	d := &dice{state: 14}
	for i := range 90 {
		r := d.longRecipe(1 + i%9)
		most, used, come := 0, []string{}, [4]bool{}
		for well := range 1 << len(r) {
			s, path := impl.RecRun(r, sayEach(r, well))
			most = max(most, s.Now)
			come[impl.RecEnd(s.At)] = true
			for _, name := range path {
				used = append(used, way{phases: r[slices.Index(phaseNames(r), name):][:1]}.slots()...)
			}
			used = sorted(used)
		}
		wantTold(t, r, r[0].Name, used, most, come)
		if t.Failed() {
			t.Fatal(r)
		}
	}
}

// sayEach makes says by which each phase takes all its ticks, well where its bit is set. A run is at one of its phases at each say, but at which hangs on those ahead.
func sayEach(r []impl.RecPhase, well int) []impl.RecSay {
	var says []impl.RecSay
	for s := impl.RecBegin(r); impl.RecEnd(s.At) == 0; {
		i := slices.Index(phaseNames(r), s.At)
		say := impl.RecSay{Ticks: r[i].Within, Well: well>>i&1 == 1}
		says = append(says, say)
		s, _ = impl.RecGo(r, s, say)
	}
	return says
}

// Promise 6, of each phase of many recipes, at all edges of its ticks.
func TestPromise6OfPhases(t *testing.T) {
	d := &dice{state: 15}
	for range 3000 {
		r := d.okRecipe()
		for _, p := range r {
			now := pick(d, []int{0, 1, 11999, 12000, d.below(12000)})
			say := impl.RecSay{Ticks: d.ticksOf(p), Well: d.below(2) == 0}
			s, ok := impl.RecGo(r, impl.RecState{At: p.Name, Now: now}, say)
			took := s.Now - now
			well := say.Well && say.Ticks <= p.Within
			if !ok || took < 0 || took > p.Within {
				t.Fatalf("%v takes %d by %v", p, took, say)
			}
			if well && s.At != p.Then || !well && s.At != p.Else {
				t.Fatalf("%v goes on to %q by %v", p, s.At, say)
			}
			if well && p.Kind == impl.RecHold && took < p.N {
				t.Fatalf("%v is held for %d alone", p, took)
			}
			if say.Ticks > p.Within && took != p.Within {
				t.Fatalf("%v takes %d, when it takes too long", p, took)
			}
		}
	}
}

// Each of the three answers at every argument, as the document says, the same when asked again, and writes into none.
func TestRecRunsAnswerAtEveryArgument(t *testing.T) {
	d := &dice{state: 16}
	numbers := append([]int{11999, 12000, 12001, -12000}, oddNumbers...)
	goes := map[bool]int{}
	for range 20000 {
		r := guarded(d.anyRecipe())
		says := guardedSays(d.anySays(numbers))
		s := impl.RecState{At: pick(d, append(phaseNames(r), oddTexts[:7]...)), Now: pick(d, numbers), Left: pick(d, numbers)}
		say := impl.RecSay{Ticks: pick(d, numbers), Well: d.below(2) == 0}
		keptR, keptSays := slices.Clone(r[:cap(r)]), slices.Clone(says[:cap(says)])
		want, ok := goByForm(r, s, say)
		end, path := runByForm(r, says)
		goes[ok]++
		for range 2 {
			wantGo(t, r, s, say, want, ok)
			wantRun(t, r, says, end.At, end.Now, path...)
			begun := impl.RecState{}
			if recipeOkByForm(r) {
				begun = impl.RecState{At: r[0].Name, Left: boundByForm(r, r[0].Name)}
			}
			wantBegin(t, r, begun)
		}
		if !slices.Equal(r[:cap(r)], keptR) || !slices.Equal(says[:cap(says)], keptSays) {
			t.Fatalf("an argument was written into: %v %v, was %v %v", r[:cap(r)], says[:cap(says)], keptR, keptSays)
		}
		if t.Failed() {
			return
		}
	}
	if goes[true] < 500 || goes[false] < 500 {
		t.Errorf("too few of a sort: %v", goes)
	}
}

// anySays makes up to 15 says of these numbers.
func (d *dice) anySays(numbers []int) []impl.RecSay {
	var says []impl.RecSay
	for range d.below(16) {
		says = append(says, impl.RecSay{Ticks: pick(d, numbers), Well: d.below(3) != 0})
	}
	return says
}

// guardedSays is says with more behind their end, which no call may read or write.
func guardedSays(says []impl.RecSay) []impl.RecSay {
	behind := impl.RecSay{Ticks: 77, Well: true}
	return append(slices.Clone(says), behind, behind, behind)[:len(says)]
}

func TestRecRunIsNewMemory(t *testing.T) {
	d := &dice{state: 17}
	for range 300 {
		r := guarded(d.longRecipe(1 + d.below(12)))
		says := guardedSays(d.saysFor(r, d.below(15)))
		keptR, keptSays := slices.Clone(r[:cap(r)]), slices.Clone(says[:cap(says)])
		_, one := impl.RecRun(r, says)
		_, other := impl.RecRun(r, says)
		before := fmt.Sprintf("%q", one)
		scribble(other)
		if after := fmt.Sprintf("%q", one); after != before {
			t.Fatalf("two answers share memory: %s, was %s", after, before)
		}
		scribble(one)
		if _, again := impl.RecRun(r, says); fmt.Sprintf("%q", again) != before {
			t.Fatalf("an answer is kept from call to call: %q, was %s", again, before)
		}
		if !slices.Equal(r[:cap(r)], keptR) || !slices.Equal(says[:cap(says)], keptSays) {
			t.Fatal("an answer shares memory with an argument")
		}
	}
}

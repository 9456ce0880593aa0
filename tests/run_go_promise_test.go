package tests

import (
	"fmt"
	"slices"
	"testing"

	"loop.example/maltrun/impl"
)

// wantSomebodyGoes: a house is ok; if anybody is there, somebody goes on; no thing is used by two that do not wait.
func wantSomebodyGoes(t *testing.T, h impl.RunHouse) {
	t.Helper()
	if !impl.RunHouseOk(h) {
		t.Fatalf("%s is not ok, it is broken in %q", short(h), houseFaults(h))
	}
	goes := impl.RunGoes(h)
	if !slices.Equal(goes, goers(h)) {
		t.Fatalf("%q go on, should be %q, in %s", goes, goers(h), short(h))
	}
	if len(h.Batches) > 0 && len(goes) == 0 {
		t.Fatalf("all wait in %s", short(h))
	}
	var used []string
	for _, name := range goes {
		b := runOf(h, name)
		own := impl.RunOwn(b)
		if len(both(own, hasOf(h.Share, name))) != len(own) {
			t.Fatalf("%s uses %q, and has %q, in %s", name, own, hasOf(h.Share, name), short(h))
		}
		used = append(used, own...)
	}
	if len(sorted(used)) != len(used) {
		t.Fatalf("%q are used, one of them by two, in %s", used, short(h))
	}
}

// wantLeft: RunLeft becomes less with each tick, never more by what is said, and more by RecBound by who begins.
func wantLeft(t *testing.T, h impl.RunHouse, e event, after impl.RunHouse) {
	t.Helper()
	was, is := impl.RunLeft(h), impl.RunLeft(after)
	fits := false
	switch e.what {
	case start:
		fits = is == was+impl.RecBound(e.recipe, e.recipe[0].Name)
	case say:
		fits = is <= was
	default:
		fits = is <= was-1 || len(h.Batches) == 0 && is == 0
	}
	if !fits {
		t.Fatalf("%s: %v: %d ticks were left, and %d are", short(h), e, was, is)
	}
}

// wantBegun: who began came last, needs the things of all slots, and left those that did not wait as they were.
func wantBegun(t *testing.T, h impl.RunHouse, e event, after impl.RunHouse) {
	t.Helper()
	last := after.Batches[len(after.Batches)-1]
	began := last.Name == e.name && last.At == e.recipe[0].Name && last.Start == h.Last+1 && after.Last == h.Last+1
	if !began || !slices.Equal(runNames(after), append(runNames(h), e.name)) || after.Now != h.Now {
		t.Fatalf("%s: %v: it did not come last in %s", short(h), e, short(after))
	}
	if !slices.Equal(last.Recipe, e.recipe) || !slices.Equal(last.Slots, e.slots) {
		t.Fatalf("%v: it goes on by %v with %v", e, last.Recipe, last.Slots)
	}
	if needs := needsOf(after.Share, e.name); !slices.Equal(needs, allThings(e.slots)) {
		t.Fatalf("%v: it needs %q", e, needs)
	}
	wantOthersAsTheyWere(t, h, e, after)
}

// wantOthersAsTheyWere: those who do not wait, but for the one of the event, are as they were; who waits waits still, or is
// at its phase for 0 ticks.
func wantOthersAsTheyWere(t *testing.T, h impl.RunHouse, e event, after impl.RunHouse) {
	t.Helper()
	for _, was := range h.Batches {
		if was.Name == e.name {
			continue
		}
		is := runOf(after, was.Name)
		if was.Since == -1 && is.Since == 0 {
			is.Since = -1
		} else if has := hasOf(after.Share, was.Name); !slices.Equal(has, hasOf(h.Share, was.Name)) {
			t.Fatalf("%s: %v: %s has %q now", short(h), e, was.Name, has)
		}
		if short(is) != short(was) {
			t.Fatalf("%s: %v: %s is %s now", short(h), e, was.Name, short(is))
		}
	}
}

// wantSaid: a batch goes on to what its recipe says, and to nothing else.
func wantSaid(t *testing.T, h impl.RunHouse, e event, after impl.RunHouse) {
	t.Helper()
	was := runOf(h, e.name)
	p := was.Recipe[slices.Index(phaseNames(was.Recipe), was.At)]
	next := p.Else
	if e.well {
		next = p.Then
	}
	gone := !slices.Contains(runNames(after), e.name)
	switch end := impl.RecEnd(next); {
	case (end > 0) != gone:
		t.Fatalf("%s: %v: it goes on to %s in %s", short(h), e, next, short(after))
	case gone:
		if done := after.Dones[len(after.Dones)-1]; done != (impl.RunDone{Name: e.name, End: end, Tick: h.Now}) {
			t.Fatalf("%s: %v: it is told of as %v", short(h), e, done)
		}
	default:
		is := runOf(after, e.name)
		if is.At != next || is.Since > 0 || is.Start != was.Start || !slices.Equal(is.Recipe, was.Recipe) || !slices.Equal(is.Slots, was.Slots) {
			t.Fatalf("%s: %v: it is %s now", short(h), e, short(is))
		}
	}
	if was.Since < 0 || p.Kind == impl.RecHold && e.well && was.Since < p.N {
		t.Fatalf("%s: %v: it goes on, and cannot", short(h), e)
	}
	if after.Now != h.Now || after.Last != h.Last {
		t.Fatalf("%s: %v: it is %d, and %d have begun", short(h), e, after.Now, after.Last)
	}
	wantOthersAsTheyWere(t, h, e, after)
}

// wantPromised holds what an event led to against the promises, and hands its code on.
func wantPromised(t *testing.T, h impl.RunHouse, e event) int {
	t.Helper()
	after, code := wantEventAsSaid(t, h, e)
	wantSomebodyGoes(t, after)
	if code != 0 {
		return code
	}
	wantLeft(t, h, e, after)
	switch e.what {
	case start:
		wantBegun(t, h, e, after)
	case say:
		wantSaid(t, h, e, after)
	}
	return 0
}

// wantAllEnd: if nobody begins any more, each has ended behind RunLeft ticks, as an end to which it could come. What goes how
// in between is up to between.
func wantAllEnd(t *testing.T, h impl.RunHouse, between func(h impl.RunHouse) impl.RunHouse) {
	t.Helper()
	after := h
	for range impl.RunLeft(h) {
		after, _ = impl.RunTick(after)
		if between != nil {
			after = between(after)
		}
	}
	if len(after.Batches) > 0 || len(after.Share.Batches) > 0 || !impl.RunHouseOk(after) {
		t.Fatalf("behind %d ticks %s is %s", impl.RunLeft(h), short(h), short(after))
	}
	ended := after.Dones[len(after.Dones)-len(h.Batches):]
	var names []string
	for _, done := range ended {
		names = append(names, done.Name)
	}
	if !slices.Equal(sorted(names), sorted(runNames(h))) {
		t.Fatalf("%s: %q ended", short(h), names)
	}
	for _, done := range ended {
		if b := runOf(h, done.Name); !impl.RecCan(b.Recipe, b.At, done.End) {
			t.Fatalf("%s: %v is no end that it can come to", short(h), done)
		}
		if done.Tick < h.Now || done.Tick > h.Now+impl.RunLeft(h) {
			t.Fatalf("%s: %v is too early or too late", short(h), done)
		}
	}
}

// talk lets some that go on have gone well, or not.
func (d *dice) talk(h impl.RunHouse) impl.RunHouse {
	for _, name := range goers(h) {
		if d.below(3) == 0 {
			h, _ = impl.RunSay(h, name, d.below(3) > 0)
		}
	}
	return h
}

// Promises 16 to 19 along rows of events, of up to five batches, six things and 40 events.
func TestPromises16To19AlongRows(t *testing.T) {
	d := &dice{state: 51}
	codes := map[string]int{}
	kinds := [6]int{}
	waited, most := 0, 0
	for range 350 {
		d.lead(1+d.below(6), 40, func(h impl.RunHouse, e event) {
			codes[fmt.Sprint(e.what, " ", wantPromised(t, h, e))]++
			most = max(most, len(h.Batches))
			waited += len(h.Batches) - len(goers(h))
			if e.what == say && slices.Contains(goers(h), e.name) {
				b := runOf(h, e.name)
				kinds[b.Recipe[slices.Index(phaseNames(b.Recipe), b.At)].Kind]++
			}
			if d.below(10) == 0 {
				wantAllEnd(t, h, nil)
				wantAllEnd(t, h, d.talk)
			}
		})
	}
	for what, least := range map[string]int{start + " 0": 1000, start + " 2": 50, start + " 3": 50, start + " 4": 5, say + " 0": 1000, say + " 3": 50, say + " 6": 100, tick + " 0": 1000} {
		if codes[what] < least {
			t.Errorf("%s only %d times", what, codes[what])
		}
	}
	if slices.Min(kinds[1:]) < 100 || waited < 1000 || most != 5 {
		t.Errorf("too few of a sort: %v, %d wait, at most %d at once", kinds, waited, most)
	}
}

// smallOnes is batches with phases of every kind, of few ticks, which share a keg and a tun.
func smallOnes() []impl.RunBatch {
	fork := impl.RunBatch{Name: "a", Slots: slotted("s1", "keg", "s2", "tun"), Recipe: []impl.RecPhase{
		{Name: "hold", Kind: impl.RecHold, A: "s1", N: 1, Within: 2, Then: "move", Else: "wash"},
		{Name: "move", Kind: impl.RecMove, A: "s1", B: "s2", N: 1, Within: 1, Then: "good", Else: "look"},
		{Name: "wash", Kind: impl.RecClean, A: "s1", Within: 1, Then: "saved", Else: "look"},
		{Name: "look", Kind: impl.RecTest, A: "s2", Within: 1, Then: "saved", Else: "scrapped"},
	}}
	other := impl.RunBatch{Name: "b", Slots: slotted("s1", "tun", "s2", "keg"), Recipe: []impl.RecPhase{
		{Name: "fill", Kind: impl.RecFill, A: "s1", B: "malt", N: 1, Within: 2, Then: "wash", Else: "scrapped"},
		{Name: "wash", Kind: impl.RecClean, A: "s2", Within: 2, Then: "good", Else: "saved"},
	}}
	return []impl.RunBatch{fork, other, uses("c", "keg", "tun"), uses("d", "tun")}
}

// Promises 16 to 19 in each house that any events lead to, of batches that need what others use, in whatever order they begin.
func TestPromises16To19InEveryHouse(t *testing.T) {
	for _, newcomers := range [][]impl.RunBatch{
		smallOnes(),
		{uses("a", "keg", "tun"), uses("b", "tun", "vat"), uses("c", "vat", "keg")},
		{uses("c", "tun"), uses("b", "tun", "vat", "tun"), uses("a", "vat", "tun")},
	} {
		waits, goes := 0, 0
		ended := [4]int{}
		houses := everyHouse(texts("keg", "tun", "vat"), newcomers, func(h impl.RunHouse, e event) {
			wantPromised(t, h, e)
			goes += len(goers(h))
			waits += len(h.Batches) - len(goers(h))
			after, _ := e.do(h)
			for _, done := range after.Dones {
				ended[done.End]++
			}
			if e.what == tick {
				wantAllEnd(t, h, nil)
			}
		})
		if houses < 100 || waits < 100 || goes < 100 || ended[1] < 50 || ended[3] < 50 {
			t.Errorf("%d houses, %d wait, %d go on, %v ended", houses, waits, goes, ended)
		}
	}
}

// Promise 17: RunLeft is met by batches that use one thing, and always take all their ticks along the longest way.
func TestPromise17IsMet(t *testing.T) {
	for n := 1; n <= 5; n++ {
		var events []event
		for i := range n {
			events = append(events, begins(uses(fmt.Sprint("b", n-i), "keg", "keg", "keg")))
		}
		h := led(t, texts("keg"), events...)
		if left := impl.RunLeft(h); left != 6*n {
			t.Fatalf("%d ticks are left of %d", left, n)
		}
		for left := 6 * n; left > 0; left-- {
			if len(h.Batches) == 0 || impl.RunLeft(h) != left {
				t.Fatalf("%d ticks are left of %s, should be %d", impl.RunLeft(h), short(h), left)
			}
			h, _ = wantEventAsSaid(t, h, ticks())
		}
		if len(h.Batches) != 0 || len(h.Dones) != n || h.Dones[n-1].Tick != 6*n {
			t.Errorf("%s is left of %d", short(h), n)
		}
	}
}

// Promise 17 with as much left as there can be: of five that use one thing each tick is one less, up to the last one.
func TestPromise17AtMost(t *testing.T) {
	var events []event
	for i := range 5 {
		r := chain(12)
		for j := range r {
			r[j].A, r[j].Else = "s", r[j].Then
		}
		events = append(events, begins(impl.RunBatch{Name: fmt.Sprint("b", i), Recipe: r, Slots: slotted("s", "keg")}))
	}
	h := led(t, texts("keg"), events...)
	for left := 60000; left > 0; left-- {
		if left%100 < 2 && impl.RunLeft(h) != left {
			t.Fatalf("%d ticks are left of %s, should be %d", impl.RunLeft(h), short(h), left)
		}
		h, _ = impl.RunTick(h)
	}
	if stands(h) != "now 60000 last 5, b0 good at 12000, b1 good at 24000, b2 good at 36000, b3 good at 48000, b4 good at 60000" {
		t.Errorf("%s is left", stands(h))
	}
}

// In any house that is ok, however it came to be, an event that has no code leaves one in which somebody goes on.
func TestPromise16InMadeHouses(t *testing.T) {
	d := &dice{state: 52}
	codes := map[string]int{}
	allWaited := 0
	for range 2500 {
		h := d.okHouse(1+d.below(8), d.below(6))
		e := d.likelyEvent(h)
		if len(h.Batches) > 0 && len(goers(h)) == 0 {
			allWaited++
			if d.below(2) == 0 {
				e = ticks()
			}
		}
		after, code := wantEventAsSaid(t, h, e)
		codes[fmt.Sprint(e.what, " ", code)]++
		if code == 0 {
			wantSomebodyGoes(t, after)
		}
	}
	for what, least := range map[string]int{start + " 0": 100, say + " 0": 100, say + " 6": 10, tick + " 0": 100, tick + " 7": 20} {
		if codes[what] < least {
			t.Errorf("%s only %d times", what, codes[what])
		}
	}
	if allWaited < 50 {
		t.Errorf("all waited only %d times", allWaited)
	}
}

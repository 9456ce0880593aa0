package tests

import (
	"fmt"
	"slices"
	"testing"

	"loop.example/maltrun/impl"
)

func TestRunOpen(t *testing.T) {
	for _, things := range [][]string{nil, {}, {"keg"}, {"keg", "tun"}, {"-", "0", "a", "aa"}, numbered("t", 8)} {
		h, ok := impl.RunOpen(things)
		if want := nobody(things...); !ok || plainly(h) != plainly(want) {
			t.Errorf("RunOpen(%q) is %+v and %v", things, h, ok)
		}
		wantHouse(t, "opened", h, 0)
	}
	notOk := [][]string{{"tun", "keg"}, {"keg", "keg"}, {"keg", "tun", "tun"}, {"aa", "a"}, numbered("t", 9), make([]string, 100000)}
	for _, text := range notNames() {
		notOk = append(notOk, texts(text), sorted(texts("keg", text)))
	}
	for _, things := range notOk {
		if h, ok := impl.RunOpen(things); ok || plainly(h) != plainly(impl.RunHouse{}) {
			t.Errorf("RunOpen(%.100q) is %+v and %v", things, h, ok)
		}
	}
}

// pours is a RunStart of the recipe pour.
func pours(name, first, second string) event {
	return begins(pouring(name, 1, "fill", -1, first, second))
}

// bad is a house that is not ok, as it has more ticks than there can be; and so it has with RunTick.
func bad() impl.RunHouse {
	return house(func(h *impl.RunHouse) { h.Now = 100001 })
}

func TestRunStartOrdinary(t *testing.T) {
	h := led(t, texts("keg", "tun", "vat"))
	h = wantStands(t, h, pours("b", "tun", "keg"), "now 0 last 1, b fill 0 [tun] of [keg tun]")
	h = wantStands(t, h, pours("a", "keg", "tun"), "now 0 last 2, b fill 0 [tun] of [keg tun], a fill -1 [] of [keg tun]")
	h = wantStands(t, h, pours("0", "vat", "tun"), "now 0 last 3, b fill 0 [tun] of [keg tun], a fill -1 [] of [keg tun], 0 fill 0 [vat] of [tun vat]")
	if !slices.Equal(batchNames(h.Share), texts("0", "a", "b")) {
		t.Errorf("Share has %q", batchNames(h.Share))
	}
	wantHouse(t, "three", h, 21)
	wantStands(t, house(nil), pours("d", "jug", "vat"), "now 40 last 10, b hold 2 [keg] of [keg tun vat], a fill -1 [] of [keg tun], c clean 0 [cask] of [cask], d fill 0 [jug] of [jug vat], x good at 5, b scrapped at 5, x saved at 40")
}

// Its things need not be in the order of its slots; a slot of a phase that never comes behind the first is none of these.
func TestRunStartOfBrew(t *testing.T) {
	h := led(t, texts("cask", "keg", "tun", "vat"), begins(brewing(nil)))
	if told := stands(h); told != "now 0 last 1, b fill 0 [keg] of [cask keg tun vat]" {
		t.Error(told)
	}
	wantHouse(t, "brew", h, 23)
	with := brewing(func(b *impl.RunBatch) { b.Slots = append(b.Slots, impl.RunSlot{Slot: "s9", Thing: "jug"}) })
	wantCodes(t, "a slot of what never comes", nobody("cask", "jug", "keg", "tun", "vat"), begins(with), 2)
}

func TestRunStartNameIsNone(t *testing.T) {
	for _, name := range notNames() {
		wantCodes(t, "a name that is none", nobody("keg", "tun"), pours(name, "keg", "tun"), 2)
		wantCodes(t, "a name that is none", house(nil), pours(name, "keg", "tun"), 2)
	}
	for _, name := range texts("12345678", "-", "0", "good", "keg", "fill", "zzzzzzzz") {
		wantStands(t, nobody("keg", "tun"), pours(name, "keg", "tun"), "now 0 last 1, "+name+" fill 0 [keg] of [keg tun]")
	}
}

func TestRunStartRecipeIsNotOk(t *testing.T) {
	for i, r := range notOk() {
		for _, slots := range [][]impl.RunSlot{nil, brewing(nil).Slots, slotted("s1", "keg", "s2", "tun")} {
			wantCodes(t, fmt.Sprint("recipe ", i), house(nil), event{what: start, name: "d", recipe: r, slots: slots}, 2)
		}
	}
	for i := range pour() {
		for what, change := range map[string]func(p *impl.RecPhase){
			"within": func(p *impl.RecPhase) { p.Within = 0 },
			"kind":   func(p *impl.RecPhase) { p.Kind = 6 },
			"then":   func(p *impl.RecPhase) { p.Then = "fill" },
			"else":   func(p *impl.RecPhase) { p.Else = "none" },
			"name":   func(p *impl.RecPhase) { p.Name = "good" },
		} {
			e := pours("d", "keg", "tun")
			change(&e.recipe[i])
			wantCodes(t, what, house(nil), e, 2)
		}
	}
}

func TestRunStartSlotsAreNotOk(t *testing.T) {
	for what, slots := range map[string][]impl.RunSlot{
		"none":                     nil,
		"too few, the first":       slotted("s1", "keg"),
		"too few, the last":        slotted("s2", "keg"),
		"too many, behind":         slotted("s1", "keg", "s2", "tun", "s3", "vat"),
		"too many, ahead":          slotted("s0", "vat", "s1", "keg", "s2", "tun"),
		"too many, one twice":      slotted("s1", "keg", "s1", "vat", "s2", "tun"),
		"one twice":                slotted("s1", "keg", "s1", "tun"),
		"out of order":             slotted("s2", "keg", "s1", "tun"),
		"another slot":             slotted("s1", "keg", "s3", "tun"),
		"no slot":                  slotted("s1", "keg", "", "tun"),
		"one thing for two":        slotted("s1", "keg", "s2", "keg"),
		"no thing":                 slotted("s1", "keg", "s2", ""),
		"a thing that is no name":  slotted("s1", "Keg", "s2", "tun"),
		"none of Things":           slotted("s1", "keg", "s2", "butt"),
		"none of Things, first":    slotted("s1", "butt", "s2", "keg"),
		"none of Things, neither":  slotted("s1", "butt", "s2", "pot"),
		"none of Things, a batch":  slotted("s1", "a", "s2", "keg"),
		"none of Things, a longer": slotted("s1", "keg", "s2", "tunn"),
	} {
		e := event{what: start, name: "d", recipe: pour(), slots: slots}
		wantCodes(t, what, house(nil), e, 2)
		wantCodes(t, what, nobody("cask", "jug", "keg", "tun", "vat"), e, 2)
	}
	wantCodes(t, "a house without things", nobody(), pours("d", "keg", "tun"), 2)
	wantCodes(t, "more slots than there are things", nobody(numbered("t", 8)...), begins(wide()), 2)
}

// As many slots as there are things.
func TestRunStartWithAllThings(t *testing.T) {
	b := uses("a", numbered("t", 8)...)
	h := led(t, numbered("t", 8), begins(b), begins(uses("b", numbered("t", 8)...)))
	if told := stands(h); told != "now 0 last 2, a p0 0 [t0] of [t0 t1 t2 t3 t4 t5 t6 t7], b p0 -1 [] of [t0 t1 t2 t3 t4 t5 t6 t7]" {
		t.Error(told)
	}
	wantCodes(t, "one thing fewer", nobody(numbered("t", 7)...), begins(b), 2)
}

func TestRunStartNameIsThere(t *testing.T) {
	for _, name := range texts("a", "b", "c") {
		wantCodes(t, "another recipe", house(nil), begins(uses(name, "jug")), 3)
		wantCodes(t, "the same recipe", house(nil), pours(name, "tun", "keg"), 3)
	}
	h := led(t, texts("keg", "tun"), pours("a", "keg", "tun"), goesBadly("a"))
	wantStands(t, h, pours("a", "tun", "keg"), "now 0 last 2, a fill 0 [tun] of [keg tun], a scrapped at 0")
}

// crowd is as many events as there can be batches, less so many, that let each begin with a thing of its own.
func crowd(less int) []event {
	var events []event
	for i := range 5 - less {
		events = append(events, begins(uses(fmt.Sprint("b", 5-i), fmt.Sprint("t", i))))
	}
	return events
}

func TestRunStartNoRoom(t *testing.T) {
	things := numbered("t", 6)
	full := led(t, things, crowd(0)...)
	for _, thing := range things {
		wantCodes(t, "five are there", full, begins(uses("new", thing)), 4)
	}
	wantStands(t, led(t, things, crowd(1)...), begins(uses("new", "t5")), "now 0 last 5, b5 p0 0 [t0] of [t0], b4 p0 0 [t1] of [t1], b3 p0 0 [t2] of [t2], b2 p0 0 [t3] of [t3], new p0 0 [t5] of [t5]")
	h, _ := impl.RunSay(full, "b3", true)
	wantStands(t, h, begins(uses("new", "t5")), "now 0 last 6, b5 p0 0 [t0] of [t0], b4 p0 0 [t1] of [t1], b2 p0 0 [t3] of [t3], b1 p0 0 [t4] of [t4], new p0 0 [t5] of [t5], b3 good at 0")
}

func TestRunStartLast(t *testing.T) {
	for last, begins := range map[int]bool{0: true, 1: true, 77: true, 999998: true, 999999: true, 1000000: false} {
		h := nobody("keg", "tun")
		h.Last = last
		if begins {
			after := wantStands(t, h, pours("a", "keg", "tun"), fmt.Sprintf("now 0 last %d, a fill 0 [keg] of [keg tun]", last+1))
			if began := after.Batches[0].Start; began != last+1 {
				t.Errorf("Last is %d, Start is %d", last, began)
			}
		} else {
			wantCodes(t, "Last", h, pours("a", "keg", "tun"), 4)
		}
	}
	h := house(func(h *impl.RunHouse) { h.Last = 999999 })
	h, code := wantEventAsSaid(t, h, begins(uses("d", "jug")))
	if code != 0 || h.Last != 1000000 || h.Batches[3].Start != 1000000 {
		t.Errorf("%d: %s", code, short(h))
	}
	wantCodes(t, "one more", h, begins(uses("e", "jug")), 4)
	h, _ = impl.RunSay(h, "d", true)
	wantCodes(t, "one ended", h, begins(uses("e", "jug")), 4)
}

// Where several codes of RunStart would fit, the first is told.
func TestRunStartSeveralCodes(t *testing.T) {
	full := led(t, numbered("t", 6), crowd(0)...)
	over := house(func(h *impl.RunHouse) { h.Last = 1000000 })
	both := copied(full)
	both.Last = 1000000
	notOk := copied(full)
	notOk.Now = -1
	for i, one := range []struct {
		h     impl.RunHouse
		e     event
		codes []int
	}{
		{bad(), begins(uses("d", "jug")), []int{1}},
		{bad(), begins(uses("", "jug")), []int{1, 2}},
		{bad(), begins(uses("a", "jug")), []int{1, 3}},
		{bad(), begins(uses("a", "butt")), []int{1, 2, 3}},
		{notOk, begins(uses("d", "t5")), []int{1, 4}},
		{notOk, begins(uses("b1", "t9")), []int{1, 2, 3, 4}},
		{house(nil), begins(uses("a", "butt")), []int{2, 3}},
		{house(nil), event{what: start, name: "a", recipe: pour()}, []int{2, 3}},
		{house(nil), event{what: start, name: "a", slots: slotted("s1", "keg", "s2", "tun")}, []int{2, 3}},
		{full, begins(uses("new", "t9")), []int{2, 4}},
		{full, begins(uses("No", "t5")), []int{2, 4}},
		{over, begins(uses("No", "jug")), []int{2, 4}},
		{over, begins(uses("d", "butt")), []int{2, 4}},
		{over, event{what: start, name: "d", recipe: pour()}, []int{2, 4}},
		{full, begins(uses("b2", "t5")), []int{3, 4}},
		{over, begins(uses("b", "jug")), []int{3, 4}},
		{full, begins(uses("b2", "t9")), []int{2, 3, 4}},
		{over, begins(uses("c", "butt")), []int{2, 3, 4}},
		{both, begins(uses("new", "t5")), []int{4}},
		{both, begins(uses("b1", "t5")), []int{3, 4}},
	} {
		wantCodes(t, fmt.Sprint("case ", i), one.h, one.e, one.codes...)
	}
}

func TestRunSayNobody(t *testing.T) {
	for _, well := range []bool{false, true} {
		for _, name := range append(texts("d", "x", "aa", "B", "hold"), notNames()...) {
			wantCodes(t, "nobody", house(nil), event{what: say, name: name, well: well}, 3)
			wantCodes(t, "nobody at all", nobody("keg"), event{what: say, name: name, well: well}, 3)
			wantCodes(t, "not ok", bad(), event{what: say, name: name, well: well}, 1, 3)
		}
		wantCodes(t, "waits", house(nil), event{what: say, name: "a", well: well}, 6)
		wantCodes(t, "not ok, and waits", bad(), event{what: say, name: "a", well: well}, 1, 6)
		wantCodes(t, "not ok", bad(), event{what: say, name: "c", well: well}, 1)
	}
	wantCodes(t, "held too short", house(nil), goesWell("b"), 6)
	wantCodes(t, "not ok, and held too short", bad(), goesWell("b"), 1, 6)
	wantCodes(t, "not ok", bad(), goesBadly("b"), 1)
}

// Who waits cannot go on, whatever kind its phase is of; also not if it has all that it needs.
func TestRunSayOfOneThatWaits(t *testing.T) {
	for _, p := range kinds() {
		for _, has := range everyPart(texts("keg", "tun")) {
			b := alone(p, "keg", "tun")
			has = both(has, thingsByForm(b, p.Name))
			for _, well := range []bool{false, true} {
				wantCodes(t, p.Name, housing(texts("keg", "tun"), [][]string{has}, b), event{what: say, name: "a", well: well}, 6)
			}
		}
	}
}

// A phase of each kind, for each number of ticks that it may have gone on: only what is held has to wait to go well.
func TestRunSayOfEachKind(t *testing.T) {
	for _, p := range kinds() {
		for since := range p.Within {
			b := alone(p, "keg", "tun")
			b.Since = since
			h := housing(texts("keg", "tun"), [][]string{thingsByForm(b, p.Name)}, b)
			wantStands(t, h, goesBadly("a"), "now 0 last 1, a "+p.Else+" at 0")
			if p.Kind == impl.RecHold && since < p.N {
				wantCodes(t, "held too short", h, goesWell("a"), 6)
			} else {
				wantStands(t, h, goesWell("a"), "now 0 last 1, a "+p.Then+" at 0")
			}
		}
	}
}

// What is held goes well with Since N, and not with one less; if N is Within, never, as it is late then.
func TestRunSayHold(t *testing.T) {
	for within := 1; within <= 6; within++ {
		for n := 1; n <= within; n++ {
			b := alone(kinds()[impl.RecHold-1], "keg")
			b.Recipe[0].N, b.Recipe[0].Within = n, within
			h := led(t, texts("keg"), begins(b))
			for since := range within {
				if since < n {
					wantCodes(t, "too short", h, goesWell("a"), 6)
				} else {
					wantStands(t, h, goesWell("a"), fmt.Sprintf("now %d last 1, a saved at %d", since, since))
				}
				wantStands(t, h, goesBadly("a"), fmt.Sprintf("now %d last 1, a scrapped at %d", since, since))
				h, _ = wantEventAsSaid(t, h, ticks())
			}
			if told := stands(h); told != fmt.Sprintf("now %d last 1, a scrapped at %d", within, within) {
				t.Error(told)
			}
		}
	}
}

// A phase goes on to a later one, not the next one alone, and to each end.
func TestRunSayGoesOnTo(t *testing.T) {
	for _, then := range texts("q", "r", "good", "saved", "scrapped") {
		for _, other := range texts("q", "r", "good", "saved", "scrapped") {
			b := uses("a", "keg", "tun", "vat")
			b.Recipe[0].Then, b.Recipe[0].Else = then, other
			b.Recipe[1].Name, b.Recipe[2].Name, b.Recipe[1].Then, b.Recipe[1].Else = "q", "r", "r", "r"
			b.Slots = slices.DeleteFunc(b.Slots, func(s impl.RunSlot) bool { return !slices.Contains(slotsByForm(b.Recipe, "p0"), s.Slot) })
			h := led(t, texts("keg", "tun", "vat"), begins(b))
			for next, e := range map[string]event{then: goesWell("a"), other: goesBadly("a")} {
				if then == other {
					e = goesWell("a")
				}
				told := map[string]string{"q": "a q 0 [tun] of [tun vat]", "r": "a r 0 [vat] of [vat]"}[next]
				if told == "" {
					told = "a " + next + " at 0"
				}
				wantStands(t, h, e, "now 0 last 1, "+told)
			}
		}
	}
}

func TestRunTickNow(t *testing.T) {
	for now, code := range map[int]int{0: 0, 1: 0, 40: 0, 99998: 0, 99999: 0, 100000: 7} {
		h := house(func(h *impl.RunHouse) { h.Now, h.Dones = now, nil })
		empty := nobody("keg")
		empty.Now = now
		if code != 0 {
			wantCodes(t, "somebody is there", h, ticks(), code)
			wantCodes(t, "nobody is there", empty, ticks(), code)
			continue
		}
		wantStands(t, h, ticks(), fmt.Sprintf("now %d last 9, b hold 3 [keg] of [keg tun vat], a fill -1 [] of [keg tun], c clean 1 [cask] of [cask]", now+1))
		wantStands(t, empty, ticks(), fmt.Sprintf("now %d last 0", now+1))
	}
	h := house(func(h *impl.RunHouse) { h.Now, h.Dones, h.Batches[2].Since = 99999, nil, 9 })
	h = wantStands(t, h, ticks(), "now 100000 last 9, b hold 3 [keg] of [keg tun vat], a fill -1 [] of [keg tun], c good at 100000")
	wantCodes(t, "no more ticks", h, ticks(), 7)
	wantStands(t, h, goesBadly("b"), "now 100000 last 9, b move 0 [tun vat] of [tun vat], a fill -1 [] of [keg tun], c good at 100000")
	wantStands(t, h, begins(uses("d", "jug")), "now 100000 last 10, b hold 3 [keg] of [keg tun vat], a fill -1 [] of [keg tun], d p0 0 [jug] of [jug], c good at 100000")
}

// A house that is not ok has the code 1 also where Now is RunMaxTick.
func TestRunTickSeveralCodes(t *testing.T) {
	wantCodes(t, "not ok", house(func(h *impl.RunHouse) { h.Last = -1 }), ticks(), 1)
	wantCodes(t, "past the last tick", bad(), ticks(), 1, 7)
	wantCodes(t, "at the last tick, not ok", house(func(h *impl.RunHouse) { h.Now, h.Last = 100000, -1 }), ticks(), 1, 7)
	wantCodes(t, "at the last tick", house(func(h *impl.RunHouse) { h.Now = 100000 }), ticks(), 7)
}

// Who is late is who has Within ticks then: Since is one less ahead of the tick. With one less than that it goes on.
func TestRunTickLate(t *testing.T) {
	for _, p := range kinds() {
		for since := range p.Within {
			b := alone(p, "keg", "tun")
			b.Since = since
			own := thingsByForm(b, p.Name)
			h := housing(texts("keg", "tun"), [][]string{own}, b)
			if since < p.Within-1 {
				wantStands(t, h, ticks(), fmt.Sprintf("now 1 last 1, a %s %d %v of %v", p.Name, since+1, own, own))
			} else {
				wantStands(t, h, ticks(), "now 1 last 1, a "+p.Else+" at 1")
			}
		}
	}
}

// Who is late goes on to Else, keeps what it may yet need, leaves the rest, and asks at once.
func TestRunTickLateGoesOnToAPhase(t *testing.T) {
	things := texts("cask", "keg", "tun", "vat")
	h := housing(things, [][]string{{"cask", "keg", "vat"}}, brewingAt("fill", 9))
	wantStands(t, h, ticks(), "now 1 last 1, b wash 0 [cask vat] of [cask tun vat]")
	h = housing(things, [][]string{{"keg", "tun"}}, brewingAt("hold", 3))
	wantStands(t, h, ticks(), "now 1 last 1, b move 0 [tun vat] of [tun vat]")
	h = housing(things, [][]string{{"cask"}}, brewingAt("wash", 5))
	wantStands(t, h, ticks(), "now 1 last 1, b scrapped at 1")
}

// Who waits is never late, for however many ticks.
func TestRunTickOfOneThatWaits(t *testing.T) {
	h := led(t, texts("keg", "tun"), begins(wideUse("a", 1000)), begins(uses("b", "keg")))
	for range 999 {
		h, _ = impl.RunTick(h)
	}
	if told := stands(h); told != "now 999 last 2, a p0 999 [keg] of [keg], b p0 -1 [] of [keg]" {
		t.Fatal(told)
	}
	h = wantStands(t, h, ticks(), "now 1000 last 2, b p0 0 [keg] of [keg], a scrapped at 1000")
	h = wantStands(t, h, ticks(), "now 1001 last 2, b p0 1 [keg] of [keg], a scrapped at 1000")
	wantStands(t, h, ticks(), "now 1002 last 2, a scrapped at 1000, b scrapped at 1002")
}

// wideUse is a batch of one phase that uses the keg, for so many ticks.
func wideUse(name string, within int) impl.RunBatch {
	b := uses(name, "keg")
	b.Recipe[0].Within = within
	return b
}

// Of several that are late in one tick the last goes first; their names do not count.
func TestRunTickSeveralLate(t *testing.T) {
	h := led(t, numbered("t", 5), crowd(0)...)
	h = wantStands(t, h, ticks(), "now 1 last 5, b5 p0 1 [t0] of [t0], b4 p0 1 [t1] of [t1], b3 p0 1 [t2] of [t2], b2 p0 1 [t3] of [t3], b1 p0 1 [t4] of [t4]")
	wantStands(t, h, ticks(), "now 2 last 5, b1 scrapped at 2, b2 scrapped at 2, b3 scrapped at 2, b4 scrapped at 2, b5 scrapped at 2")
	h = led(t, numbered("t", 5), begins(uses("c", "t0")), begins(uses("a", "t1", "t2")), begins(uses("d", "t3")), begins(uses("b", "t4")), goesWell("a"), ticks(), goesWell("d"), begins(uses("d", "t3")))
	wantStands(t, h, ticks(), "now 2 last 5, d p0 1 [t3] of [t3], d good at 1, b scrapped at 2, a scrapped at 2, c scrapped at 2")
}

// Of several that are late in one tick all leave what they need no more, ahead of all that ask; then the first asks first.
func TestRunTickLateOnesSwap(t *testing.T) {
	one, other := uses("b", "keg", "tun"), uses("a", "tun", "vat")
	h := led(t, texts("keg", "tun", "vat"), begins(one), begins(other), begins(uses("c", "keg")), ticks())
	if told := stands(h); told != "now 1 last 3, b p0 1 [keg] of [keg tun], a p0 1 [tun] of [tun vat], c p0 -1 [] of [keg]" {
		t.Fatal(told)
	}
	wantStands(t, h, ticks(), "now 2 last 3, b p1 0 [tun] of [tun], a p1 0 [vat] of [vat], c p0 0 [keg] of [keg]")
	h = led(t, texts("keg", "tun", "vat"), begins(uses("c", "keg", "vat")), begins(uses("b", "tun", "vat")), ticks())
	h = wantStands(t, h, ticks(), "now 2 last 2, c p1 0 [vat] of [vat], b p1 -1 [] of [vat]")
	h = wantStands(t, h, ticks(), "now 3 last 2, c p1 1 [vat] of [vat], b p1 -1 [] of [vat]")
	wantStands(t, h, ticks(), "now 4 last 2, b p1 0 [vat] of [vat], c scrapped at 4")
}

// What one left is given to the one that began first of those that wait for it, by RunSay and by RunTick, whatever the names.
func TestRunAllAskInOrder(t *testing.T) {
	events := []event{begins(uses("m", "keg")), begins(uses("z", "keg")), begins(uses("a", "keg"))}
	h := led(t, texts("keg", "tun"), events...)
	wantStands(t, h, goesWell("m"), "now 0 last 3, z p0 0 [keg] of [keg], a p0 -1 [] of [keg], m good at 0")
	wantStands(t, h, goesBadly("m"), "now 0 last 3, z p0 0 [keg] of [keg], a p0 -1 [] of [keg], m scrapped at 0")
	h, _ = impl.RunTick(h)
	h = wantStands(t, h, ticks(), "now 2 last 3, z p0 0 [keg] of [keg], a p0 -1 [] of [keg], m scrapped at 2")
	h = wantStands(t, h, begins(uses("b", "keg")), "now 2 last 4, z p0 0 [keg] of [keg], a p0 -1 [] of [keg], b p0 -1 [] of [keg], m scrapped at 2")
	h = wantStands(t, h, goesWell("z"), "now 2 last 4, a p0 0 [keg] of [keg], b p0 -1 [] of [keg], m scrapped at 2, z good at 2")
	wantStands(t, h, goesWell("a"), "now 2 last 4, b p0 0 [keg] of [keg], m scrapped at 2, z good at 2, a good at 2")
}

// Who goes on asks in its own place: those ahead of it are asked first, and may be given what it needs next.
func TestRunWhoGoesOnAsksInItsPlace(t *testing.T) {
	one, other := uses("b", "tun", "keg"), uses("a", "vat", "tun")
	h := led(t, texts("keg", "tun", "vat"), begins(uses("x", "tun")), begins(one), begins(other))
	if told := stands(h); told != "now 0 last 3, x p0 0 [tun] of [tun], b p0 -1 [] of [keg tun], a p0 0 [vat] of [tun vat]" {
		t.Fatal(told)
	}
	// a goes on to the tun, which x has; then x leaves it, and b is ahead of a.
	h = wantStands(t, h, goesWell("a"), "now 0 last 3, x p0 0 [tun] of [tun], b p0 -1 [] of [keg tun], a p1 -1 [] of [tun]")
	h = wantStands(t, h, goesWell("x"), "now 0 last 3, b p0 0 [tun] of [keg tun], a p1 -1 [] of [tun], x good at 0")
	wantStands(t, h, goesWell("b"), "now 0 last 3, b p1 0 [keg] of [keg], a p1 0 [tun] of [tun], x good at 0")
}

// Who goes on keeps what it may yet need: another one that waits for it is not given it, though it is ahead.
func TestRunWhoGoesOnKeepsWhatItNeeds(t *testing.T) {
	h := led(t, texts("keg", "tun"), begins(uses("a", "keg")), begins(uses("b", "keg", "keg", "tun", "keg")), begins(uses("c", "keg")), goesWell("a"))
	if told := stands(h); told != "now 0 last 3, b p0 0 [keg] of [keg tun], c p0 -1 [] of [keg], a good at 0" {
		t.Fatal(told)
	}
	h = wantStands(t, h, goesBadly("b"), "now 0 last 3, b p1 0 [keg] of [keg tun], c p0 -1 [] of [keg], a good at 0")
	h = wantStands(t, h, goesWell("b"), "now 0 last 3, b p2 0 [keg tun] of [keg tun], c p0 -1 [] of [keg], a good at 0")
	h = wantStands(t, h, goesWell("b"), "now 0 last 3, b p3 0 [keg] of [keg], c p0 -1 [] of [keg], a good at 0")
	wantStands(t, h, goesWell("b"), "now 0 last 3, c p0 0 [keg] of [keg], a good at 0, b good at 0")
}

// A later one is given what is free, if that is safe, though one ahead of it waits for something else.
func TestRunLaterOnesNeedNotWait(t *testing.T) {
	h := led(t, texts("keg", "tun", "vat"), begins(uses("a", "keg")), begins(uses("b", "keg", "tun")), begins(uses("c", "tun")))
	if told := stands(h); told != "now 0 last 3, a p0 0 [keg] of [keg], b p0 -1 [] of [keg tun], c p0 0 [tun] of [tun]" {
		t.Fatal(told)
	}
	h = wantStands(t, h, goesWell("a"), "now 0 last 3, b p0 0 [keg] of [keg tun], c p0 0 [tun] of [tun], a good at 0")
	wantStands(t, h, goesWell("b"), "now 0 last 3, b p1 -1 [] of [tun], c p0 0 [tun] of [tun], a good at 0")
}

// In a house in which one waits that might go on: with a code it waits still, without one it is given what it needs, ahead of
// who begins.
func TestRunAskOnlyWithoutACode(t *testing.T) {
	h := housing(texts("keg", "tun"), [][]string{nil, nil}, withStart(uses("b", "keg"), 1), withStart(uses("a", "tun"), 2))
	wantHouse(t, "both wait", h, 4)
	wantCodes(t, "a name that is there", h, begins(uses("a", "keg")), 3)
	wantCodes(t, "a thing that is none", h, begins(uses("c", "vat")), 2)
	wantCodes(t, "nobody", h, goesWell("c"), 3)
	wantCodes(t, "it waits", h, goesWell("a"), 6)
	last := copied(h)
	last.Now, last.Last = 100000, 1000000
	wantCodes(t, "no more ticks", last, ticks(), 7)
	wantCodes(t, "no more batches", last, begins(uses("c", "keg")), 4)
	wantStands(t, h, ticks(), "now 1 last 2, b p0 0 [keg] of [keg], a p0 0 [tun] of [tun]")
	wantStands(t, h, begins(uses("c", "keg")), "now 0 last 3, b p0 0 [keg] of [keg], a p0 0 [tun] of [tun], c p0 -1 [] of [keg]")
	h.Batches[1].Since, h.Share.Batches[0].Has = 1, texts("tun")
	wantStands(t, h, goesWell("a"), "now 0 last 2, b p0 0 [keg] of [keg], a good at 0")
	wantStands(t, h, ticks(), "now 1 last 2, b p0 0 [keg] of [keg], a scrapped at 1")
}

func withStart(b impl.RunBatch, start int) impl.RunBatch {
	b.Start = start
	return b
}

// A batch that goes comes behind those that ended; if these are more than RunMaxDones then, the first goes.
func TestRunDones(t *testing.T) {
	for n := range 21 {
		h := led(t, texts("keg"), begins(uses("a", "keg")), ticks())
		for i := range n {
			h.Dones = append(h.Dones, impl.RunDone{Name: fmt.Sprint("x", i), End: 1 + i%3, Tick: i / 20})
		}
		for _, e := range []event{goesWell("a"), goesBadly("a"), ticks()} {
			after, code := wantEventAsSaid(t, h, e)
			first := max(0, n-19)
			if code != 0 || len(after.Dones) != min(20, n+1) || !slices.Equal(after.Dones[:n-first], h.Dones[first:]) {
				t.Fatalf("%v: %d: behind %d these are %v", e, code, n, after.Dones)
			}
			if last := after.Dones[len(after.Dones)-1]; last.Name != "a" || last.Tick != after.Now {
				t.Errorf("%v: the last one is %v", e, last)
			}
		}
	}
}

// Several go in one tick, with as many that ended as there can be, and with fewer: as many of the first go.
func TestRunDonesOfSeveral(t *testing.T) {
	for n := range 21 {
		h := led(t, numbered("t", 5), append(crowd(0), ticks())...)
		h.Dones = endings(n, 0)
		for i := range h.Dones {
			h.Dones[i].Name = fmt.Sprint("x", i)
		}
		after, _ := wantEventAsSaid(t, h, ticks())
		var names []string
		for _, done := range after.Dones {
			names = append(names, done.Name)
		}
		want := append(numbered("x", n), "b1", "b2", "b3", "b4", "b5")
		if want = want[max(0, len(want)-20):]; !slices.Equal(names, want) {
			t.Errorf("behind %d that ended %q are told of, should be %q", n, names, want)
		}
	}
}

// Many that begin and end one after the other: the last RunMaxDones are told of.
func TestRunDonesOneAfterTheOther(t *testing.T) {
	h := led(t, texts("keg"))
	for i := range 30 {
		h, _ = wantEventAsSaid(t, h, begins(uses(fmt.Sprint("b", i), "keg")))
		h, _ = wantEventAsSaid(t, h, event{what: say, name: fmt.Sprint("b", i), well: i%2 == 0})
		h, _ = wantEventAsSaid(t, h, ticks())
	}
	if len(h.Dones) != 20 || h.Last != 30 || h.Now != 30 {
		t.Fatalf("%s", short(h))
	}
	for i, done := range h.Dones {
		if want := (impl.RunDone{Name: fmt.Sprint("b", i+10), End: 1 + i%2*2, Tick: i + 10}); done != want {
			t.Errorf("%d: %v, should be %v", i, done, want)
		}
	}
}

// The example of chapter 24, as far as it is told by what is in the house, and by who goes on.
func TestRunGoOfTheDocument(t *testing.T) {
	r, fault := impl.RecParse("fill fill s1 malt 5 within 3 then go else scrapped\ngo move s1 s2 5 within 4 then good else saved\n")
	if fault != (impl.RecFault{}) {
		t.Fatal(fault)
	}
	h := led(t, texts("keg", "tun"))
	wantGoes(t, "nobody began", h)
	h = wantStands(t, h, event{what: start, name: "a", recipe: r, slots: slotted("s1", "tun", "s2", "keg")}, "now 0 last 1, a fill 0 [tun] of [keg tun]")
	wantGoes(t, "one began", h, "a")
	h = wantStands(t, h, event{what: start, name: "b", recipe: r, slots: slotted("s1", "keg", "s2", "tun")}, "now 0 last 2, a fill 0 [tun] of [keg tun], b fill -1 [] of [keg tun]")
	wantHouse(t, "two began", h, 14)
	wantGoes(t, "two began", h, "a")
	h = wantStands(t, h, ticks(), "now 1 last 2, a fill 1 [tun] of [keg tun], b fill -1 [] of [keg tun]")
	wantHouse(t, "behind a tick", h, 13)
	wantGoes(t, "behind a tick", h, "a")
	h = wantStands(t, h, goesWell("a"), "now 1 last 2, a go 0 [keg tun] of [keg tun], b fill -1 [] of [keg tun]")
	wantHouse(t, "a went well", h, 11)
	wantGoes(t, "a went well", h, "a")
	for i := range 3 {
		h = wantStands(t, h, ticks(), fmt.Sprintf("now %d last 2, a go %d [keg tun] of [keg tun], b fill -1 [] of [keg tun]", i+2, i+1))
		wantHouse(t, "behind ticks", h, 10-i)
		wantGoes(t, "behind ticks", h, "a")
	}
	h = wantStands(t, h, ticks(), "now 5 last 2, b fill 0 [keg] of [keg tun], a saved at 5")
	wantHouse(t, "behind four ticks", h, 7)
	wantGoes(t, "behind four ticks", h, "b")
}

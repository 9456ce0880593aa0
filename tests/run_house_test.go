package tests

import (
	"fmt"
	"math"
	"slices"
	"testing"

	"loop.example/maltrun/impl"
)

func TestRunHouseOrdinary(t *testing.T) {
	wantHouse(t, "house", house(nil), 26)
	wantHouse(t, "nothing", impl.RunHouse{}, 0)
	wantHouse(t, "nobody", nobody("keg", "tun"), 0)
	wantHouse(t, "nobody, but many ended", impl.RunHouse{Now: 7, Last: 30, Dones: endings(20, 7)}, 0)
	wantHouse(t, "empty lists", impl.RunHouse{Share: impl.ShareBook{Things: []string{}, Batches: []impl.ShareBatch{}}, Batches: []impl.RunBatch{}, Dones: []impl.RunDone{}}, 0)
}

// endings is so many that ended at a tick.
func endings(n, tick int) []impl.RunDone {
	var all []impl.RunDone
	for range n {
		all = append(all, impl.RunDone{Name: "x", End: 1, Tick: tick})
	}
	return all
}

func TestRunHouseNow(t *testing.T) {
	for now, ok := range map[int]bool{-1: false, 0: true, 1: true, 99999: true, 100000: true, 100001: false, math.MaxInt: false, math.MinInt: false, 1 << 32: false} {
		h := house(func(h *impl.RunHouse) { h.Now, h.Dones = now, nil })
		if ok {
			wantHouse(t, fmt.Sprint("now ", now), h, 26)
		} else {
			wantHouseBroken(t, "now", h)
		}
	}
}

func TestRunHouseLast(t *testing.T) {
	for last, ok := range map[int]bool{-1: false, 0: true, 1: true, 1000000: true, 1000001: false, math.MaxInt: false, math.MinInt: false} {
		h := nobody("keg")
		h.Last = last
		if ok {
			wantHouse(t, fmt.Sprint("last ", last), h, 0)
		} else {
			wantHouseBroken(t, "last", h)
		}
	}
	wantHouseBroken(t, "last", house(func(h *impl.RunHouse) { h.Last = 1000001 }))
	wantHouse(t, "the last of all", house(func(h *impl.RunHouse) { h.Last, h.Batches[2].Start = 1000000, 1000000 }), 26)
	wantHouseBroken(t, "last", house(func(h *impl.RunHouse) { h.Last, h.Batches[2].Start = 1000001, 1000001 }))
}

func TestRunHouseDones(t *testing.T) {
	for n, ok := range map[int]bool{0: true, 1: true, 19: true, 20: true, 21: false, 100000: false} {
		h := house(func(h *impl.RunHouse) { h.Dones = endings(n, 40) })
		if ok {
			wantHouse(t, fmt.Sprint(n, " dones"), h, 26)
		} else {
			wantHouseBroken(t, "dones", h)
		}
	}
}

func TestRunHouseNamesOfDones(t *testing.T) {
	for i := range 3 {
		for _, name := range texts("a", "b", "c", "x", "good", "12345678", "-") {
			wantHouse(t, name, house(func(h *impl.RunHouse) { h.Dones[i].Name = name }), 26)
		}
		for _, name := range notNames() {
			wantHouseBroken(t, "done's name", house(func(h *impl.RunHouse) { h.Dones[i].Name = name }))
		}
	}
}

func TestRunHouseEndsOfDones(t *testing.T) {
	for i := range 3 {
		for end, ok := range map[int]bool{-1: false, 0: false, 1: true, 2: true, 3: true, 4: false, math.MaxInt: false, math.MinInt: false, 1<<32 + 1: false} {
			h := house(func(h *impl.RunHouse) { h.Dones[i].End = end })
			if ok {
				wantHouse(t, fmt.Sprint("end ", end), h, 26)
			} else {
				wantHouseBroken(t, "end", h)
			}
		}
	}
}

func TestRunHouseTicksOfDones(t *testing.T) {
	for _, one := range []struct {
		part  string
		now   int
		ticks []int
	}{
		{"", 40, []int{0, 0, 0}},
		{"", 40, []int{0, 1, 2}},
		{"", 40, []int{40, 40, 40}},
		{"", 40, []int{0, 0, 40}},
		{"", 0, []int{0, 0, 0}},
		{"", 100000, []int{0, 99999, 100000}},
		{"tick", 40, []int{-1, 0, 0}},
		{"tick", 40, []int{-1, -1, -1}},
		{"tick", 40, []int{math.MinInt, 0, 0}},
		{"tick", 40, []int{0, 0, 41}},
		{"tick", 40, []int{41, 41, 41}},
		{"tick", 0, []int{0, 0, 1}},
		{"tick", 40, []int{0, 0, math.MaxInt}},
		{"ticks", 40, []int{1, 0, 2}},
		{"ticks", 40, []int{0, 2, 1}},
		{"ticks", 40, []int{40, 40, 39}},
		{"ticks", 40, []int{2, 1, 0}},
		{"ticks", 40, []int{5, 4, 5}},
		{"tick, ticks", 40, []int{0, 0, -1}},
		{"tick, ticks", 40, []int{41, 40, 40}},
	} {
		h := house(func(h *impl.RunHouse) {
			h.Now = one.now
			for i, tick := range one.ticks {
				h.Dones[i].Tick = tick
			}
		})
		if one.part == "" {
			wantHouse(t, fmt.Sprint(one.ticks), h, 26)
		} else {
			wantHouseBroken(t, one.part, h)
		}
	}
	wantHouseBroken(t, "tick", house(func(h *impl.RunHouse) { h.Now = 39 }))
	wantHouseBroken(t, "now, tick", house(func(h *impl.RunHouse) { h.Now = -1 }))
}

// Each batch is ok alone, the first, one between, and the last.
func TestRunHouseBatches(t *testing.T) {
	breaks := map[string]func(b *impl.RunBatch){
		"batch":        func(b *impl.RunBatch) { b.Slots = b.Slots[1:] },
		"thing":        func(b *impl.RunBatch) { b.Slots[0].Thing = "Keg" },
		"since":        func(b *impl.RunBatch) { b.Since = -2 },
		"within":       func(b *impl.RunBatch) { b.Since = 1000 },
		"at":           func(b *impl.RunBatch) { b.At = "good" },
		"no phase":     func(b *impl.RunBatch) { b.At = "none" },
		"no recipe":    func(b *impl.RunBatch) { b.Recipe = nil },
		"recipe":       func(b *impl.RunBatch) { b.Recipe[0].Else = b.Recipe[0].Name },
		"slot besides": func(b *impl.RunBatch) { b.Slots = append(b.Slots, impl.RunSlot{Slot: "zz", Thing: "jug"}) },
	}
	for i := range 3 {
		for what, spoil := range breaks {
			h := house(func(h *impl.RunHouse) { spoil(&h.Batches[i]) })
			if batchOkByForm(h.Batches[i]) {
				t.Errorf("%s: %v is ok", what, h.Batches[i])
			}
			wantHouseBroken(t, "batch", h)
			// RunThings of what is not ok is nothing; that does not make it ok.
			shared := &h.Share.Batches[slices.Index(batchNames(h.Share), h.Batches[i].Name)]
			shared.Needs, shared.Has = nil, nil
			wantHouseBroken(t, "batch", h)
		}
	}
	wantHouseBroken(t, "batch", house(func(h *impl.RunHouse) { h.Batches[0].Start = 0 }))
	wantHouseBroken(t, "batch", house(func(h *impl.RunHouse) { h.Batches[0].Start = -1 }))
	wantHouseBroken(t, "batch, share", house(func(h *impl.RunHouse) { h.Batches[0].Name, h.Share.Batches[1].Name = "b ", "b " }))
}

// A Since that is one too many is refused in a house, too; one less is not.
func TestRunHouseSince(t *testing.T) {
	for since, left := range map[int]int{0: 11, 1: 10, 2: 9, 3: 8} {
		wantHouse(t, fmt.Sprint("since ", since), house(func(h *impl.RunHouse) { h.Batches[0].Since = since }), left+17)
	}
	wantHouse(t, "b waits", house(func(h *impl.RunHouse) { h.Batches[0].Since = -1 }), 28)
	for _, since := range []int{4, -2, math.MinInt, math.MaxInt} {
		wantHouseBroken(t, "batch", house(func(h *impl.RunHouse) { h.Batches[0].Since = since }))
	}
}

func TestRunHouseStarts(t *testing.T) {
	for _, one := range []struct {
		part   string
		last   int
		starts [3]int
	}{
		{"", 3, [3]int{1, 2, 3}},
		{"", 9, [3]int{7, 8, 9}},
		{"", 1000000, [3]int{1, 999999, 1000000}},
		{"late", 2, [3]int{1, 2, 3}},
		{"late", 8, [3]int{1, 2, 9}},
		{"late", 0, [3]int{1, 2, 3}},
		{"late", 1000000, [3]int{1, 2, 1000001}},
		{"late", 1000000, [3]int{1, 2, math.MaxInt}},
		{"starts", 9, [3]int{1, 1, 2}},
		{"starts", 9, [3]int{1, 2, 2}},
		{"starts", 9, [3]int{1, 9, 9}},
		{"starts", 9, [3]int{5, 5, 5}},
		{"starts", 9, [3]int{2, 1, 3}},
		{"starts", 9, [3]int{1, 3, 2}},
		{"starts", 9, [3]int{3, 2, 1}},
		{"starts", 9, [3]int{2, 3, 1}},
		{"late, starts", 9, [3]int{10, 1, 2}},
		{"batch", 9, [3]int{0, 1, 2}},
		{"batch, starts", 9, [3]int{1, 0, 2}},
		{"batch, starts", 9, [3]int{1, 2, -1}},
		{"batch, starts", 9, [3]int{0, 0, 0}},
	} {
		h := house(func(h *impl.RunHouse) {
			h.Last = one.last
			for i, start := range one.starts {
				h.Batches[i].Start = start
			}
		})
		if one.part == "" {
			wantHouse(t, fmt.Sprint(one.starts), h, 26)
		} else {
			wantHouseBroken(t, one.part, h)
		}
	}
}

// Two batches of one Name, which Share has once, or twice, or with another one in its place.
func TestRunHouseTwoOfOneName(t *testing.T) {
	one, other := pouring("a", 1, "fill", -1, "keg", "tun"), pouring("a", 2, "fill", -1, "keg", "tun")
	h := housing(texts("keg", "tun"), make([][]string, 2), one, other)
	h.Share.Batches = h.Share.Batches[:1]
	wantHouseBroken(t, "names", h)
	h.Share.Batches = []impl.ShareBatch{batch("a", nil, texts("keg", "tun")), batch("a", nil, texts("keg", "tun"))}
	wantHouseBroken(t, "names, share", h)
	h.Share.Batches[1].Name = "b"
	wantHouseBroken(t, "besides, names", h)
	h.Batches[1].Name = "b"
	wantHouse(t, "of two names", h, 14)
	h = house(func(h *impl.RunHouse) { h.Batches = append(h.Batches, h.Batches[2]); h.Batches[3].Start = 8 })
	wantHouseBroken(t, "names", h)
}

func TestRunHouseBookNotOk(t *testing.T) {
	for what, b := range booksNotOk() {
		h := impl.RunHouse{Share: b}
		wantOk(t, what, impl.RunHouseOk(h), false)
		h = house(func(h *impl.RunHouse) { h.Share = b })
		wantOk(t, what, impl.RunHouseOk(h), false)
	}
	for _, things := range [][]string{numbered("t", 9), texts("tun", "keg"), texts("keg", "keg"), texts("no name"), texts("")} {
		wantHouseBroken(t, "share", nobody(things...))
	}
	wantHouse(t, "as many things as there can be", nobody(numbered("t", 8)...), 0)
	for what, change := range map[string]func(h *impl.RunHouse){
		"has what it does not need": func(h *impl.RunHouse) { h.Share.Batches[2].Has = texts("cask", "jug") },
		"has what another has":      func(h *impl.RunHouse) { h.Share.Batches[0].Has = texts("keg") },
		"has one thing twice":       func(h *impl.RunHouse) { h.Share.Batches[2].Has = texts("cask", "cask") },
		"a need that is no thing":   func(h *impl.RunHouse) { h.Share.Things = texts("cask", "jug", "keg", "tun") },
		"batches out of order":      func(h *impl.RunHouse) { slices.Reverse(h.Share.Batches) },
		"things out of order":       func(h *impl.RunHouse) { slices.Reverse(h.Share.Things) },
	} {
		h := house(change)
		wantHouseBroken(t, "share", h)
		if t.Failed() {
			t.Fatal(what)
		}
	}
}

// Each has what the other one may yet need: all else is ok, but that is not safe.
func TestRunHouseBookNotSafe(t *testing.T) {
	one, other := pouring("a", 1, "fill", 0, "keg", "tun"), pouring("b", 2, "fill", 0, "tun", "keg")
	wantHouseBroken(t, "share", housing(texts("keg", "tun"), [][]string{{"keg"}, {"tun"}}, one, other))
	wantHouseBroken(t, "has, share", housing(texts("keg", "tun"), [][]string{{"keg"}, {"keg"}}, one, other))
	one.Since, other.Since = -1, -1
	wantHouseBroken(t, "share", housing(texts("keg", "tun"), [][]string{{"keg"}, {"tun"}}, one, other))
	wantHouse(t, "one has something", housing(texts("keg", "tun"), [][]string{{"keg"}, nil}, one, other), 14)
	wantHouse(t, "one has all", housing(texts("keg", "tun"), [][]string{nil, {"keg", "tun"}}, one, other), 14)
	for n := 2; n <= 5; n++ {
		var all []impl.RunBatch
		var has [][]string
		things := numbered("t", n)
		for i := range n {
			all = append(all, pouring(fmt.Sprint("b", n-i), i+1, "fill", 0, things[i], things[(i+1)%n]))
			has = append(has, texts(things[i]))
		}
		wantHouseBroken(t, "share", housing(things, has, all...))
		all[0].Since, has[0] = -1, nil
		wantHouse(t, fmt.Sprint("one of ", n, " waits"), housing(things, has, all...), 7*n)
	}
}

// Share has a batch for each, and no other.
func TestRunHouseWhoShares(t *testing.T) {
	for i := range 3 {
		wantHouseBroken(t, "lacks", house(func(h *impl.RunHouse) { h.Share.Batches = slices.Delete(h.Share.Batches, i, i+1) }))
		wantHouseBroken(t, "besides", house(func(h *impl.RunHouse) { h.Batches = slices.Delete(h.Batches, i, i+1) }))
	}
	for _, name := range texts("0", "aa", "d", "x", "zzzzzzzz") {
		for _, more := range []impl.ShareBatch{batch(name, nil, nil), batch(name, nil, texts("jug")), batch(name, texts("jug"), texts("jug"))} {
			h := house(func(h *impl.RunHouse) { h.Share.Batches = append(h.Share.Batches, more); inOrder(h.Share.Batches) })
			wantHouseBroken(t, "besides", h)
		}
	}
	wantHouseBroken(t, "besides, lacks", house(func(h *impl.RunHouse) { h.Share.Batches[0].Name = "aa" }))
	wantHouseBroken(t, "besides, lacks", house(func(h *impl.RunHouse) { h.Batches[1].Name = "aa" }))
	wantHouseBroken(t, "lacks", house(func(h *impl.RunHouse) { h.Share.Batches = nil }))
	wantHouseBroken(t, "besides", house(func(h *impl.RunHouse) { h.Batches = nil }))
	more := pouring("d", 9, "fill", -1, "jug", "keg")
	wantHouseBroken(t, "lacks", house(func(h *impl.RunHouse) { h.Batches = append(h.Batches, more) }))
}

// A batch of Share is held against the one of its Name, whatever their places are.
func TestRunHouseByName(t *testing.T) {
	h := house(func(h *impl.RunHouse) { h.Batches[0].Name, h.Batches[1].Name = "a", "b" })
	wantHouseBroken(t, "has, needs", h)
	h = house(func(h *impl.RunHouse) {
		h.Batches[0].Name, h.Batches[1].Name, h.Batches[2].Name = "n3", "n2", "n1"
		h.Share.Batches[0].Name, h.Share.Batches[1].Name, h.Share.Batches[2].Name = "n2", "n3", "n1"
		inOrder(h.Share.Batches)
	})
	wantHouse(t, "other names", h, 26)
}

// Needs are just what may be needed from At on.
func TestRunHouseNeeds(t *testing.T) {
	for place, lists := range [][][]string{
		{nil, {"keg"}, {"tun"}, {"jug", "keg", "tun"}, {"keg", "tun", "vat"}, {"cask", "keg", "tun"}, {"keg", "vat"}, {"cask", "jug", "keg", "tun", "vat"}},
		{{"keg"}, {"keg", "tun"}, {"keg", "vat"}, {"cask", "keg", "tun", "vat"}, {"jug", "keg", "tun", "vat"}, {"cask", "jug", "keg", "tun", "vat"}},
		{{"cask", "jug"}, {"cask", "vat"}, {"cask", "jug", "keg", "tun", "vat"}},
	} {
		for _, needs := range lists {
			wantHouseBroken(t, "needs", house(func(h *impl.RunHouse) { h.Share.Batches[place].Needs = needs }))
		}
	}
	for _, needs := range [][]string{{"tun", "keg"}, {"keg", "keg", "tun"}, {"keg", "tun", "tun"}, {"keg", "tun", ""}, {"", "keg", "tun"}} {
		wantHouseBroken(t, "needs, share", house(func(h *impl.RunHouse) { h.Share.Batches[0].Needs = needs }))
	}
}

// Needs become less from phase to phase; those of another phase do not do.
func TestRunHouseNeedsOfEachPhase(t *testing.T) {
	things := texts("cask", "keg", "tun", "vat")
	all := map[string][]string{"fill": things, "hold": {"keg", "tun", "vat"}, "wash": {"cask", "tun", "vat"}, "move": {"tun", "vat"}}
	bounds := map[string]int{"fill": 23, "hold": 11, "wash": 13, "move": 7}
	for at := range all {
		for from, needs := range all {
			h := housing(things, [][]string{nil}, brewingAt(at, -1))
			h.Share.Batches[0].Needs = needs
			if at == from {
				wantHouse(t, at, h, bounds[at])
			} else {
				wantHouseBroken(t, "needs", h)
			}
		}
	}
}

// Who is at a phase that never comes and uses a slot that is none of Slots needs what no book has: no house has it.
func TestRunHouseWhereWhatNeverComesIs(t *testing.T) {
	things := texts("cask", "keg", "tun", "vat")
	for _, since := range []int{-1, 0} {
		h := housing(things, [][]string{nil}, brewingAt("odd", since))
		h.Share.Batches[0].Needs = texts("tun", "vat")
		wantOk(t, "without it", impl.RunHouseOk(h), false)
		h.Share.Batches[0].Needs = things
		wantOk(t, "with all", impl.RunHouseOk(h), false)
		h.Share.Batches[0].Needs = texts("", "tun", "vat")
		wantOk(t, "with the empty text", impl.RunHouseOk(h), false)
		h.Share.Batches[0].Has = texts("")
		wantOk(t, "that it has", impl.RunHouseOk(h), false)
		h.Share.Things = append(texts(""), things...)
		wantOk(t, "as a thing", impl.RunHouseOk(h), false)
		if left := impl.RunLeft(h); left != 0 {
			t.Errorf("%d ticks are left", left)
		}
	}
	b := brewingAt("odd", 5)
	b.Recipe[1].A = "s4"
	h := housing(things, [][]string{{"cask"}}, b)
	wantHouse(t, "it uses a slot of Slots", h, 1007-5)
	h.Share.Batches[0].Has = nil
	wantHouseBroken(t, "has", h)
}

// A thing of a slot that is not used any more need not be there at all.
func TestRunHouseWithFewThings(t *testing.T) {
	b := wide()
	b.At, b.Since = b.Recipe[11].Name, 999
	wantHouse(t, "the last two of 24 things", housing(texts("t00", "t12"), [][]string{{"t00", "t12"}}, b), 1)
	b.At, b.Since = b.Recipe[8].Name, -1
	wantHouse(t, "eight of 24 things", housing(texts("t00", "t01", "t02", "t03", "t12", "t13", "t14", "t15"), [][]string{nil}, b), 4000)
	b.At = b.Recipe[7].Name
	h := housing(texts("t00", "t01", "t02", "t03", "t04", "t12", "t13", "t14", "t15", "t16"), [][]string{nil}, b)
	wantHouseBroken(t, "share", h)
}

// Who does not wait has all of RunOwn, and may have more; who waits may have none, some or all.
func TestRunHouseHas(t *testing.T) {
	things := texts("keg", "tun", "vat")
	for _, has := range everyPart(things) {
		b := brewingAt("hold", 0)
		h := housing(things, [][]string{has}, b)
		if slices.Contains(has, "keg") {
			wantHouse(t, fmt.Sprintf("goes on with %q", has), h, 11)
		} else {
			wantHouseBroken(t, "has", h)
		}
		h.Batches[0].Since = -1
		wantHouse(t, fmt.Sprintf("waits with %q", has), h, 11)
	}
	for _, has := range everyPart(texts("tun", "vat")) {
		for since := range 7 {
			h := housing(things, [][]string{has}, brewingAt("move", since))
			if len(has) == 2 {
				wantHouse(t, "moves", h, 7-since)
			} else {
				wantHouseBroken(t, "has", h)
			}
		}
		wantHouse(t, "waits to move", housing(things, [][]string{has}, brewingAt("move", -1)), 7)
	}
}

// Of several, one alone has not what it needs: the first, one between, or the last.
func TestRunHouseHasOfSeveral(t *testing.T) {
	var all []impl.RunBatch
	var has [][]string
	things := numbered("t", 5)
	for i, thing := range things {
		b := alone(phase(nil), thing)
		b.Name, b.Since, b.Start = fmt.Sprint("b", (i*2)%5), 4, i+1
		all, has = append(all, b), append(has, texts(thing))
	}
	wantHouse(t, "all have it", housing(things, has, all...), 5)
	for i := range things {
		without := slices.Clone(has)
		without[i] = nil
		h := housing(things, without, all...)
		wantHouseBroken(t, "has", h)
		h.Batches[i].Since = -1
		wantHouse(t, "it waits", h, 9)
		h.Batches[i].Since = 4
		h.Share.Batches[slices.Index(batchNames(h.Share), all[i].Name)].Needs = nil
		wantHouseBroken(t, "has, needs", h)
	}
}

func TestRunLeft(t *testing.T) {
	things := texts("cask", "keg", "tun", "vat")
	wantHouse(t, "nobody", nobody(things...), 0)
	for at, left := range map[string]int{"fill": 23, "hold": 11, "wash": 13, "move": 7} {
		p := brew()[slices.Index(phaseNames(brew()), at)]
		wantHouse(t, "waits", housing(things, [][]string{nil}, brewingAt(at, -1)), left)
		for since := range p.Within {
			b := brewingAt(at, since)
			wantHouse(t, "goes on", housing(things, [][]string{ownByForm(b)}, b), left-since)
		}
	}
}

// As much as can be left: as many batches as there can be, at the first of as many phases as there can be.
func TestRunLeftAtMost(t *testing.T) {
	var all []impl.RunBatch
	for i := range 5 {
		r := chain(12)
		for j := range r {
			r[j].A = "s"
		}
		all = append(all, impl.RunBatch{Name: fmt.Sprint("b", 4-i), Recipe: r, Slots: slotted("s", fmt.Sprint("t", i)), At: "pa", Since: -1, Start: i + 1})
	}
	things := numbered("t", 5)
	wantHouse(t, "all wait", housing(things, make([][]string, 5), all...), 60000)
	has := [][]string{{"t0"}, {"t1"}, {"t2"}, {"t3"}, {"t4"}}
	for i := range all {
		all[i].Since = 999
		wantHouse(t, "some go on", housing(things, has, all...), 60000-999*(i+1))
	}
	for i := range all {
		all[i].At = "pl"
	}
	wantHouse(t, "all but done", housing(things, has, all...), 5)
	six := append(all, impl.RunBatch{Name: "b5", Recipe: all[0].Recipe, Slots: slotted("s", "t5"), At: "pa", Since: -1, Start: 6})
	wantHouseBroken(t, "share", housing(numbered("t", 6), append(has, nil), six...))
}

func TestRunHouseAsTheDocumentSays(t *testing.T) {
	d := &dice{state: 41}
	broken := map[string]int{}
	going, waiting, several, notSafe := 0, 0, 0, 0
	for range 8000 {
		h := d.anyHouse()
		faults := wantHouseAsSaid(t, h)
		if len(faults) == 1 {
			broken[faults[0]]++
		}
		if slices.Equal(faults, texts("share")) && bookOkByForm(h.Share) {
			notSafe++
		}
		if len(faults) > 0 {
			continue
		}
		broken["none"]++
		several = max(several, len(h.Batches))
		for _, b := range h.Batches {
			if b.Since == -1 {
				waiting++
			} else {
				going++
			}
		}
	}
	for _, part := range texts("none", "now", "last", "share", "dones", "done's name", "end", "tick", "ticks", "batch", "late", "starts", "lacks", "besides", "needs", "has") {
		if broken[part] < 20 {
			t.Errorf("broken in %s alone only %d times", part, broken[part])
		}
	}
	if going < 1000 || waiting < 1000 || several != 5 || notSafe < 10 {
		t.Errorf("%d go on, %d wait, at most %d at once, %d times it is not safe alone", going, waiting, several, notSafe)
	}
}

package tests

import (
	"cmp"
	"slices"
	"strings"
	"testing"

	"loop.example/maltrun/impl"
)

// pour is a recipe that fills its first slot, and moves what is there to its second one.
func pour() []impl.RecPhase {
	return []impl.RecPhase{
		{Name: "fill", Kind: impl.RecFill, A: "s1", B: "malt", N: 5, Within: 3, Then: "go", Else: "scrapped"},
		{Name: "go", Kind: impl.RecMove, A: "s1", B: "s2", N: 5, Within: 4, Then: "good", Else: "saved"},
	}
}

// pouring is a batch of the recipe pour, with two things, at a phase, for so many ticks.
func pouring(name string, start int, at string, since int, first, second string) impl.RunBatch {
	return impl.RunBatch{Name: name, Recipe: pour(), Slots: slotted("s1", first, "s2", second), At: at, Since: since, Start: start}
}

// house is a house in which b goes on, a waits for what b may yet need, and c goes on; they began in this order, which is not
// that of their names. 9 ticks are left of b, 7 of a, 10 of c. It is changed as asked for.
func house(change func(h *impl.RunHouse)) impl.RunHouse {
	c := alone(kinds()[impl.RecClean-1], "cask")
	c.Name, c.Since, c.Start = "c", 0, 7
	h := impl.RunHouse{
		Now: 40, Last: 9,
		Share: impl.ShareBook{Things: texts("cask", "jug", "keg", "tun", "vat"), Batches: []impl.ShareBatch{
			batch("a", nil, texts("keg", "tun")),
			batch("b", texts("keg"), texts("keg", "tun", "vat")),
			batch("c", texts("cask"), texts("cask")),
		}},
		Batches: []impl.RunBatch{brewingAt("hold", 2), pouring("a", 3, "fill", -1, "tun", "keg"), c},
		Dones:   []impl.RunDone{{Name: "x", End: 1, Tick: 5}, {Name: "b", End: 3, Tick: 5}, {Name: "x", End: 2, Tick: 40}},
	}
	if change != nil {
		change(&h)
	}
	return h
}

// nobody is a house with these things, and nobody in it.
func nobody(things ...string) impl.RunHouse {
	return impl.RunHouse{Share: impl.ShareBook{Things: things}}
}

// housing is a house with batches that have so much each, in which Share is as the batches ask for it, and has these things.
func housing(things []string, has [][]string, batches ...impl.RunBatch) impl.RunHouse {
	h := nobody(things...)
	for i, b := range batches {
		h.Last = max(h.Last, b.Start)
		h.Batches = append(h.Batches, b)
		h.Share.Batches = append(h.Share.Batches, batch(b.Name, has[i], thingsByForm(b, b.At)))
	}
	inOrder(h.Share.Batches)
	return h
}

func inOrder(batches []impl.ShareBatch) {
	slices.SortFunc(batches, func(one, other impl.ShareBatch) int { return strings.Compare(one.Name, other.Name) })
}

// houseFaults is which parts of what makes a house ok are broken, each looked at by itself. Where a part is broken on which
// others hang, these are not asked.
func houseFaults(h impl.RunHouse) []string {
	var faults []string
	must := func(part string, holds bool) {
		if !holds {
			faults = append(faults, part)
		}
	}
	must("now", h.Now >= 0 && h.Now <= 100000)
	must("last", h.Last >= 0 && h.Last <= 1000000)
	must("dones", len(h.Dones) <= 20)
	for i, done := range h.Dones {
		must("done's name", nameForm.MatchString(done.Name))
		must("end", done.End >= 1 && done.End <= 3)
		must("tick", done.Tick >= 0 && done.Tick <= h.Now)
		must("ticks", i == 0 || done.Tick >= h.Dones[i-1].Tick)
	}
	must("share", safeByForm(h.Share))
	for i, b := range h.Batches {
		ok := batchOkByForm(b)
		must("batch", ok)
		must("late", b.Start <= h.Last)
		must("starts", i == 0 || b.Start > h.Batches[i-1].Start)
		must("names", slices.IndexFunc(h.Batches, func(other impl.RunBatch) bool { return other.Name == b.Name }) == i)
		must("lacks", slices.Contains(batchNames(h.Share), b.Name))
		if ok && slices.Contains(batchNames(h.Share), b.Name) {
			must("needs", slices.Equal(needsOf(h.Share, b.Name), thingsByForm(b, b.At)))
			must("has", b.Since == -1 || len(both(ownByForm(b), hasOf(h.Share, b.Name))) == len(ownByForm(b)))
		}
	}
	for _, name := range batchNames(h.Share) {
		must("besides", slices.ContainsFunc(h.Batches, func(b impl.RunBatch) bool { return b.Name == name }))
	}
	return sorted(faults)
}

// leftByForm is by the document's words what RunLeft of a house that is ok should be.
func leftByForm(h impl.RunHouse) int {
	left := 0
	for _, b := range h.Batches {
		left += boundByForm(b.Recipe, b.At) - max(b.Since, 0)
	}
	return left
}

// wantHouse: a house is ok, and so many ticks are left of it.
func wantHouse(t *testing.T, what string, h impl.RunHouse, left int) {
	t.Helper()
	if faults := houseFaults(h); len(faults) > 0 {
		t.Errorf("%s: %s is broken in %q", what, short(h), faults)
	}
	wantOk(t, what, impl.RunHouseOk(h), true)
	if got := impl.RunLeft(h); got != left {
		t.Errorf("%s: RunLeft(%s) is %d, should be %d", what, short(h), got, left)
	}
}

// wantHouseBroken: a house is broken in one part alone (or in these, that are never broken one by one), so it is not ok, and
// nothing is left of it.
func wantHouseBroken(t *testing.T, part string, h impl.RunHouse) {
	t.Helper()
	if faults := houseFaults(h); !slices.Equal(faults, strings.Split(part, ", ")) {
		t.Errorf("%s is broken in %q, should be in %s", short(h), faults, part)
	}
	if impl.RunHouseOk(h) {
		t.Errorf("%s: RunHouseOk(%s) is true", part, short(h))
	}
	if left := impl.RunLeft(h); left != 0 {
		t.Errorf("%s: RunLeft(%s) is %d, should be 0", part, short(h), left)
	}
}

// wantHouseAsSaid holds what the two functions answer of a house against the document's words, and tells what is broken of it.
func wantHouseAsSaid(t *testing.T, h impl.RunHouse) []string {
	t.Helper()
	faults := houseFaults(h)
	if ok := impl.RunHouseOk(h); ok != (len(faults) == 0) {
		t.Fatalf("RunHouseOk(%s) is %v, it is broken in %q", short(h), ok, faults)
	}
	want := 0
	if len(faults) == 0 {
		want = leftByForm(h)
	}
	if left := impl.RunLeft(h); left != want {
		t.Fatalf("RunLeft(%s) is %d, should be %d", short(h), left, want)
	}
	return faults
}

// housed makes a batch that is ok, with some of these things for its slots, at a phase where all it may need is of these.
func (d *dice) housed(things []string) impl.RunBatch {
	for {
		r := d.okRecipe()
		if len(things) < 3 {
			r = r[len(r)-1:]
		}
		if len(slotsByForm(r, r[0].Name)) > len(things) {
			continue
		}
		b := d.okBatch(r, things)
		if !slices.Contains(thingsByForm(b, b.At), "") {
			return b
		}
	}
}

// okHouse makes a house that is ok, of so many things and batches. Some of these have things, and go on, where that is safe.
func (d *dice) okHouse(things, batches int) impl.RunHouse {
	h := nobody(d.namesUpTo(things)...)
	for _, name := range d.shuffled(d.namesUpTo(batches)) {
		b := d.housed(h.Share.Things)
		h.Last += 1 + d.below(2)*d.below(1000)
		b.Name, b.Start, b.Since = name, h.Last, -1
		h.Batches = append(h.Batches, b)
		h.Share.Batches = append(h.Share.Batches, batch(name, nil, thingsByForm(b, b.At)))
	}
	inOrder(h.Share.Batches)
	for i := range h.Batches {
		d.letGo(&h, &h.Batches[i])
	}
	h.Last += d.below(2) * d.below(1000)
	h.Now = pick(d, []int{0, 1, d.below(100001), 100000})
	h.Dones = d.dones(d.below(21), h.Now)
	return h
}

// letGo gives a batch what it needs for its phase, or some of what it may need, if it is free, and that is safe.
func (d *dice) letGo(h *impl.RunHouse, b *impl.RunBatch) {
	at := slices.Index(batchNames(h.Share), b.Name)
	one := &h.Share.Batches[at]
	own := ownByForm(*b)
	has := sorted(append(d.someOf(one.Needs, d.below(5)), own...))
	if d.below(4) == 0 {
		has = d.someOf(one.Needs, d.below(11))
	}
	one.Has = has
	if !safeByForm(h.Share) {
		one.Has = nil
		return
	}
	if len(both(own, has)) == len(own) && d.below(6) > 0 {
		p := b.Recipe[slices.Index(phaseNames(b.Recipe), b.At)]
		b.Since = pick(d, []int{0, p.Within - 1, d.below(p.Within)})
	}
}

// dones makes so many that ended, up to a tick.
func (d *dice) dones(n, now int) []impl.RunDone {
	var all []impl.RunDone
	for range n {
		all = append(all, impl.RunDone{Name: pick(d, d.namesUpTo(6)), End: 1 + d.below(3), Tick: pick(d, []int{0, now, d.below(now + 1)})})
	}
	slices.SortStableFunc(all, func(one, other impl.RunDone) int { return cmp.Compare(one.Tick, other.Tick) })
	return all
}

// spoilHouse changes one thing of a house, mostly for the worse.
func (d *dice) spoilHouse(h impl.RunHouse) impl.RunHouse {
	switch d.below(10) {
	case 0:
		h.Now = pick(d, append([]int{100000, 100001, h.Now - 1}, oddNumbers...))
	case 1:
		h.Last = pick(d, append([]int{1000000, 1000001, h.Last - 1}, oddNumbers...))
	case 2:
		h.Share = d.spoilBook(h.Share)
	case 3:
		d.letAllHave(&h)
	case 4, 5:
		h.Dones = d.spoilDones(slices.Clone(h.Dones), h.Now)
	default:
		h.Batches = d.spoilBatches(slices.Clone(h.Batches), h.Last)
	}
	return h
}

// letAllHave lets each batch have something more of what it needs and nobody has, whether that is safe or not.
func (d *dice) letAllHave(h *impl.RunHouse) {
	for i := range h.Share.Batches {
		one := &h.Share.Batches[i]
		had := hadByOthers(h.Share, one.Name, one.Needs)
		free := slices.DeleteFunc(d.shuffled(one.Needs), func(thing string) bool { return slices.Contains(had, thing) })
		one.Has = sorted(append(slices.Clone(one.Has), free[:min(1, len(free))]...))
	}
}

// spoilDones changes one of those that ended.
func (d *dice) spoilDones(dones []impl.RunDone, now int) []impl.RunDone {
	if len(dones) == 0 || d.below(5) == 0 {
		return append(dones, d.dones(21-len(dones)*d.below(2), max(0, min(now, 1000)))...)
	}
	one, other := &dones[d.below(len(dones))], &dones[d.below(len(dones))]
	switch d.below(4) {
	case 0:
		one.Name = pick(d, oddTexts)
	case 1:
		one.End = pick(d, oddNumbers)
	case 2:
		one.Tick = pick(d, append([]int{now, now + 1, other.Tick}, oddNumbers...))
	default:
		*one, *other = *other, *one
	}
	return dones
}

// spoilBatches changes one of the batches of a house, or how many there are.
func (d *dice) spoilBatches(batches []impl.RunBatch, last int) []impl.RunBatch {
	if len(batches) == 0 {
		return append(batches, d.someBatch())
	}
	one, other := &batches[d.below(len(batches))], &batches[d.below(len(batches))]
	switch d.below(9) {
	case 0, 1:
		*one = d.spoilBatch(*one)
	case 2:
		one.Start = pick(d, []int{last, last + 1, other.Start})
	case 3:
		*one, *other = *other, *one
	case 4:
		one.Name = other.Name
	case 5:
		return append(batches, *one)
	case 6:
		return batches[:len(batches)-1]
	case 7:
		if len(one.Recipe) > 0 {
			d.stand(one, pick(d, one.Recipe))
		}
	default:
		one.Since = d.below(3) - 1
	}
	return batches
}

// anyHouse makes a house that may be ok, or not.
func (d *dice) anyHouse() impl.RunHouse {
	things := d.below(9)
	batches := d.below(6)
	if things == 0 {
		batches = 0
	}
	h := d.okHouse(things, batches)
	for range d.below(3) {
		h = d.spoilHouse(h)
	}
	return h
}

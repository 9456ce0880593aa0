package tests

import (
	"fmt"
	"slices"
	"strings"
	"testing"

	"loop.example/maltrun/impl"
)

// The three of chapter 23 by which a house goes on.
const (
	start = "RunStart"
	say   = "RunSay"
	tick  = "RunTick"
)

// event is a call of one of the three.
type event struct {
	what   string
	name   string
	recipe []impl.RecPhase
	slots  []impl.RunSlot
	well   bool
}

// begins lets a batch begin that is of the Name, the Recipe and the Slots of this one.
func begins(b impl.RunBatch) event {
	return event{what: start, name: b.Name, recipe: b.Recipe, slots: b.Slots}
}

func goesWell(name string) event {
	return event{what: say, name: name, well: true}
}

func goesBadly(name string) event {
	return event{what: say, name: name}
}

func ticks() event {
	return event{what: tick}
}

func (e event) String() string {
	return fmt.Sprintf("%s of %.20q, well %v, with %.200v and %.600v", e.what, e.name, e.well, e.slots, e.recipe)
}

// do is what the program answers.
func (e event) do(h impl.RunHouse) (impl.RunHouse, int) {
	switch e.what {
	case start:
		return impl.RunStart(h, e.name, e.recipe, e.slots)
	case say:
		return impl.RunSay(h, e.name, e.well)
	default:
		return impl.RunTick(h)
	}
}

// byForm is what the document's words say.
func (e event) byForm(h impl.RunHouse) (impl.RunHouse, int) {
	codes := e.codesByForm(h)
	switch {
	case len(codes) == 0:
		return e.afterByForm(h), 0
	case codes[0] == 1:
		return impl.RunHouse{}, 1
	default:
		return h, codes[0]
	}
}

// codesByForm is all the codes that would fit, in the order of the document's list, each looked at by itself.
func (e event) codesByForm(h impl.RunHouse) []int {
	var codes []int
	would := func(code int, says bool) {
		if says {
			codes = append(codes, code)
		}
	}
	there := slices.Contains(runNames(h), e.name)
	would(1, len(houseFaults(h)) > 0)
	switch e.what {
	case start:
		would(2, !e.beginsByForm(h))
		would(3, there)
		would(4, len(h.Batches) >= 5 || h.Last >= 1000000)
	case say:
		would(3, !there)
		would(6, there && e.staysByForm(h))
	default:
		would(7, h.Now >= 100000)
	}
	return codes
}

// beginsByForm says whether what would begin is ok, and has things of the house.
func (e event) beginsByForm(h impl.RunHouse) bool {
	if len(e.recipe) == 0 {
		return false
	}
	b := impl.RunBatch{Name: e.name, Recipe: e.recipe, Slots: e.slots, At: e.recipe[0].Name, Since: -1, Start: 1}
	return batchOkByForm(b) && ofByForm(allThings(e.slots), h.Share.Things)
}

// staysByForm says whether the batch of the event's name, that is there, cannot go on.
func (e event) staysByForm(h impl.RunHouse) bool {
	b := runOf(h, e.name)
	at := slices.Index(phaseNames(b.Recipe), b.At)
	if b.Since == -1 || at < 0 {
		return true
	}
	p := b.Recipe[at]
	return p.Kind == impl.RecHold && e.well && b.Since < p.N
}

// afterByForm is the house that comes of an event that has no code.
func (e event) afterByForm(h impl.RunHouse) impl.RunHouse {
	h = copied(h)
	switch e.what {
	case start:
		h.Last++
		h.Batches = append(h.Batches, impl.RunBatch{Name: e.name, Recipe: e.recipe, Slots: e.slots, At: e.recipe[0].Name, Since: -1, Start: h.Last})
		h.Share, _ = call{enter, e.name, allThings(e.slots)}.byForm(h.Share)
	case say:
		goOnByForm(&h, e.name, e.well)
	default:
		tickByForm(&h)
	}
	askByForm(&h)
	return h
}

// tickByForm lets a tick pass by the document's words, up to where all ask.
func tickByForm(h *impl.RunHouse) {
	h.Now++
	var late []string
	for i, b := range h.Batches {
		if b.Since == -1 {
			continue
		}
		h.Batches[i].Since++
		if at := slices.Index(phaseNames(b.Recipe), b.At); h.Batches[i].Since == b.Recipe[at].Within {
			late = append(late, b.Name)
		}
	}
	slices.Reverse(late)
	for _, name := range late {
		goOnByForm(h, name, false)
	}
}

// goOnByForm lets a batch go on by the document's words.
func goOnByForm(h *impl.RunHouse, name string, well bool) {
	place := slices.Index(runNames(*h), name)
	b := &h.Batches[place]
	p := b.Recipe[slices.Index(phaseNames(b.Recipe), b.At)]
	next := map[bool]string{true: p.Then, false: p.Else}[well]
	if end := slices.Index(ends[:], next); end > 0 {
		h.Share, _ = call{leave, name, nil}.byForm(h.Share)
		h.Batches = slices.Concat(h.Batches[:place], h.Batches[place+1:])
		h.Dones = append(h.Dones, impl.RunDone{Name: name, End: end, Tick: h.Now})
		h.Dones = h.Dones[max(0, len(h.Dones)-20):]
		return
	}
	h.Share, _ = call{less, name, thingsByForm(*b, next)}.byForm(h.Share)
	b.At, b.Since = next, -1
}

// askByForm lets all ask by the document's words.
func askByForm(h *impl.RunHouse) {
	for i, b := range h.Batches {
		if b.Since != -1 {
			continue
		}
		if share, code := (call{ask, b.Name, ownByForm(b)}).byForm(h.Share); code == 0 {
			h.Share, h.Batches[i].Since = share, 0
		}
	}
}

// copied is a house of its own memory.
func copied(h impl.RunHouse) impl.RunHouse {
	h.Share.Things = slices.Clone(h.Share.Things)
	h.Share.Batches = slices.Clone(h.Share.Batches)
	for i, one := range h.Share.Batches {
		h.Share.Batches[i] = batch(one.Name, slices.Clone(one.Has), slices.Clone(one.Needs))
	}
	h.Batches = slices.Clone(h.Batches)
	for i, b := range h.Batches {
		h.Batches[i].Recipe, h.Batches[i].Slots = slices.Clone(b.Recipe), slices.Clone(b.Slots)
	}
	h.Dones = slices.Clone(h.Dones)
	return h
}

// runNames is the Names of the batches of a house, by their places.
func runNames(h impl.RunHouse) []string {
	var names []string
	for _, b := range h.Batches {
		names = append(names, b.Name)
	}
	return names
}

// runOf is the first batch of a name that is there.
func runOf(h impl.RunHouse, name string) impl.RunBatch {
	return h.Batches[slices.Index(runNames(h), name)]
}

// goers is the Names of those that do not wait, by their places.
func goers(h impl.RunHouse) []string {
	var names []string
	for _, b := range h.Batches {
		if b.Since >= 0 {
			names = append(names, b.Name)
		}
	}
	return names
}

// plainly tells all of a house; an empty list is told as none is.
func plainly(h impl.RunHouse) string {
	return fmt.Sprintf("%+v", h)
}

// stands tells how all stand: the tick and how many have begun, each batch with what it has of what it needs, and each that
// ended.
func stands(h impl.RunHouse) string {
	told := []string{fmt.Sprintf("now %d last %d", h.Now, h.Last)}
	for _, b := range h.Batches {
		has, needs := hasOf(h.Share, b.Name), needsOf(h.Share, b.Name)
		told = append(told, fmt.Sprintf("%s %s %d %v of %v", b.Name, b.At, b.Since, has, needs))
	}
	for _, done := range h.Dones {
		told = append(told, fmt.Sprintf("%s %s at %d", done.Name, ends[done.End], done.Tick))
	}
	return strings.Join(told, ", ")
}

// wantEvent holds what an event answers against a house and a code.
func wantEvent(t *testing.T, h impl.RunHouse, e event, want impl.RunHouse, code int) {
	t.Helper()
	after, got := e.do(h)
	if got != code {
		t.Errorf("%s: %v: the code is %d, should be %d", short(h), e, got, code)
	}
	if plainly(after) != plainly(want) {
		t.Errorf("%s: %v: the house is %s, should be %s", short(h), e, short(after), short(want))
	}
}

// wantEventAsSaid holds what an event answers against the document's words, and hands it on.
func wantEventAsSaid(t *testing.T, h impl.RunHouse, e event) (impl.RunHouse, int) {
	t.Helper()
	want, code := e.byForm(h)
	wantEvent(t, h, e, want, code)
	if t.Failed() {
		t.FailNow()
	}
	return e.do(h)
}

// wantCodes: just these codes would fit an event, of which the first is told. The house stays as it is, with 1 it is nothing.
func wantCodes(t *testing.T, what string, h impl.RunHouse, e event, codes ...int) {
	t.Helper()
	if fit := e.codesByForm(h); !slices.Equal(fit, codes) {
		t.Errorf("%s: %s: %v: the codes %v would fit, should be %v", what, short(h), e, fit, codes)
	}
	want := h
	if codes[0] == 1 {
		want = impl.RunHouse{}
	}
	wantEvent(t, h, e, want, codes[0])
}

// wantStands: an event has no code, leaves a house as the document's words say, and all stand so behind it.
func wantStands(t *testing.T, h impl.RunHouse, e event, told string) impl.RunHouse {
	t.Helper()
	after, code := wantEventAsSaid(t, h, e)
	if code != 0 || stands(after) != told {
		t.Errorf("%s: %v: the code is %d, and %s, should be %s", stands(h), e, code, stands(after), told)
	}
	if !impl.RunHouseOk(after) {
		t.Errorf("%s: %v: %s is not ok", short(h), e, short(after))
	}
	return after
}

// led is the house that these events lead to from one with these things; each of them has no code.
func led(t *testing.T, things []string, events ...event) impl.RunHouse {
	t.Helper()
	h, ok := impl.RunOpen(things)
	if !ok {
		t.Fatalf("RunOpen(%q) is false", things)
	}
	for _, e := range events {
		var code int
		if h, code = wantEventAsSaid(t, h, e); code != 0 {
			t.Fatalf("%v: the code is %d", e, code)
		}
	}
	return h
}

// uses is a batch of a recipe of phases that look at one slot each, one after the other, of Within 2: it uses these things
// in turn. What goes badly goes on to the next one, too; behind the last one it is good, or scrapped.
func uses(name string, things ...string) impl.RunBatch {
	b := impl.RunBatch{Name: name, Since: -1, Start: 1, At: "p0"}
	slots := sorted(things)
	for i, thing := range things {
		p := phase(nil)
		p.Name, p.A, p.Within = fmt.Sprint("p", i), fmt.Sprint("s", slices.Index(slots, thing)), 2
		p.Then, p.Else = fmt.Sprint("p", i+1), fmt.Sprint("p", i+1)
		b.Recipe = append(b.Recipe, p)
	}
	last := &b.Recipe[len(things)-1]
	last.Then, last.Else = "good", "scrapped"
	for i, thing := range slots {
		b.Slots = append(b.Slots, impl.RunSlot{Slot: fmt.Sprint("s", i), Thing: thing})
	}
	return b
}

// shortRecipe makes a recipe that is ok, of few phases that take few ticks, and at most so many slots.
func (d *dice) shortRecipe(slots int) []impl.RecPhase {
	names := numbered("p", 1+d.below(5))
	var r []impl.RecPhase
	for i, name := range names {
		on := append(slices.Clone(names[i+1:]), ends[1:]...)
		p := impl.RecPhase{Name: name, Kind: 1 + d.below(5), Within: 1 + d.below(4), Then: on[0], Else: pick(d, on)}
		if d.below(3) == 0 {
			p.Then, p.Else = p.Else, pick(d, on)
		}
		if p.Kind == impl.RecMove && slots < 2 {
			p.Kind = impl.RecHold
		}
		some := d.shuffled(numbered("s", slots))
		p.A = some[0]
		switch p.Kind {
		case impl.RecFill:
			p.B, p.N = "malt", 1+d.below(9)
		case impl.RecMove:
			p.B, p.N = some[1], 1+d.below(9)
		case impl.RecHold:
			p.N = 1 + d.below(p.Within)
		}
		r = append(r, p)
	}
	return r
}

// newcomer makes a batch that may begin, with some of these things.
func (d *dice) newcomer(name string, things []string) event {
	r := d.shortRecipe(1 + d.below(min(4, len(things))))
	things = d.shuffled(things)
	e := event{what: start, name: name, recipe: r}
	for i, slot := range slotsByForm(r, r[0].Name) {
		e.slots = append(e.slots, impl.RunSlot{Slot: slot, Thing: things[i]})
	}
	return e
}

// likelyEvent makes an event that mostly has no code.
func (d *dice) likelyEvent(h impl.RunHouse) event {
	going := goers(h)
	switch chance := d.below(10); {
	case len(h.Batches) == 0 || chance < 3 && (len(h.Batches) < 5 || d.below(4) == 0):
		return d.newcomer(pick(d, texts("z", "a", "m", "k", "b", "0", "-")), h.Share.Things)
	case chance < 7 || len(going) == 0:
		return ticks()
	default:
		return event{what: say, name: pick(d, going), well: d.below(4) > 0}
	}
}

// anyEvent makes an event that may well have a code.
func (d *dice) anyEvent(h impl.RunHouse) event {
	e := d.likelyEvent(h)
	switch d.below(8) {
	case 0:
		e = event{what: say, name: pick(d, append(runNames(h), oddTexts...)), well: d.below(2) == 0}
	case 1:
		e.what = start
		e.recipe = d.spoil(slices.Clone(e.recipe))
	case 2:
		e.what = start
		e.slots = d.spoilSlots(slices.Clone(e.slots))
	case 3:
		e.name = pick(d, append(runNames(h), oddTexts...))
	case 4:
		if len(h.Share.Things) > 0 {
			e = d.newcomer(pick(d, append(runNames(h), "a", "new")), append(texts("none"), h.Share.Things...))
		}
	}
	return e
}

// lead lets so many events happen from RunOpen of so many things on; each of them is told of, with the house ahead of it.
func (d *dice) lead(things, events int, each func(h impl.RunHouse, e event)) impl.RunHouse {
	h, _ := impl.RunOpen(d.namesUpTo(things))
	for range events {
		e := d.likelyEvent(h)
		if d.below(8) == 0 {
			e = d.anyEvent(h)
		}
		if each != nil {
			each(h, e)
		}
		h, _ = e.do(h)
	}
	return h
}

// alike is a house with all that is told of its past left out: how many ticks have passed, and have begun, and who ended.
func alike(h impl.RunHouse) impl.RunHouse {
	h = copied(h)
	h.Now, h.Last, h.Dones = 0, len(h.Batches), nil
	for i := range h.Batches {
		h.Batches[i].Start = i + 1
	}
	return h
}

// everyHouse hands out each house that the three lead to, by any events that let one of these begin who is not there, let one
// that is there have gone well or not, or let a tick pass, with each of these events; and how many houses there are. Houses
// that differ in their past alone are told as one.
func everyHouse(things []string, newcomers []impl.RunBatch, each func(h impl.RunHouse, e event)) int {
	first, _ := impl.RunOpen(things)
	seen := map[string]bool{plainly(first): true}
	houses := []impl.RunHouse{first}
	for at := 0; at < len(houses); at++ {
		h := houses[at]
		events := []event{ticks()}
		for _, b := range newcomers {
			events = append(events, begins(b))
		}
		for _, name := range runNames(h) {
			events = append(events, goesWell(name), goesBadly(name))
		}
		for _, e := range events {
			each(h, e)
			after, _ := e.do(h)
			if told := plainly(alike(after)); !seen[told] {
				seen[told] = true
				houses = append(houses, alike(after))
			}
		}
	}
	return len(houses)
}

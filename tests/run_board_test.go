package tests

import (
	"fmt"
	"strings"
	"testing"

	"loop.example/maltrun/impl"
)

// wantBoard: the board of a house is just these lines, with a newline behind each.
func wantBoard(t *testing.T, what string, h impl.RunHouse, lines ...string) {
	t.Helper()
	want := ""
	for _, line := range lines {
		want += line + "\n"
	}
	if board := impl.RunBoard(h); board != want {
		t.Errorf("%s: RunBoard(%s) is %q, should be %q", what, short(h), board, want)
	}
}

// boardByForm is by the document's words what RunBoard should be.
func boardByForm(h impl.RunHouse) string {
	if len(houseFaults(h)) > 0 {
		return ""
	}
	board := fmt.Sprintf("now %d left %d\n", h.Now, leftByForm(h))
	for _, b := range h.Batches {
		board += fmt.Sprintf("%s %s", b.Name, b.At)
		if b.Since == -1 {
			board += " waits"
		} else {
			board += fmt.Sprintf(" for %d", b.Since)
		}
		for _, thing := range hasOf(h.Share, b.Name) {
			board += " " + thing
		}
		board += "\n"
	}
	for _, done := range h.Dones {
		board += fmt.Sprintf("%s %s at %d\n", done.Name, ends[done.End], done.Tick)
	}
	return board
}

// wantBoardAsSaid holds what RunBoard answers against the document's words, and hands it on.
func wantBoardAsSaid(t *testing.T, h impl.RunHouse) string {
	t.Helper()
	board := impl.RunBoard(h)
	if want := boardByForm(h); board != want {
		t.Fatalf("RunBoard(%s) is %q, should be %q", short(h), board, want)
	}
	return board
}

// The four boards of chapter 24, and those between them.
func TestRunBoardOfTheDocument(t *testing.T) {
	r, fault := impl.RecParse("fill fill s1 malt 5 within 3 then go else scrapped\ngo move s1 s2 5 within 4 then good else saved\n")
	if fault != (impl.RecFault{}) {
		t.Fatal(fault)
	}
	h, _ := impl.RunOpen(texts("keg", "tun"))
	wantBoard(t, "nobody began", h, "now 0 left 0")
	h, _ = impl.RunStart(h, "a", r, slotted("s1", "tun", "s2", "keg"))
	wantBoard(t, "one began", h, "now 0 left 7", "a fill for 0 tun")
	h, _ = impl.RunStart(h, "b", r, slotted("s1", "keg", "s2", "tun"))
	wantBoard(t, "two began", h, "now 0 left 14", "a fill for 0 tun", "b fill waits")
	h, _ = impl.RunTick(h)
	wantBoard(t, "behind a tick", h, "now 1 left 13", "a fill for 1 tun", "b fill waits")
	h, _ = impl.RunSay(h, "a", true)
	wantBoard(t, "a went well", h, "now 1 left 11", "a go for 0 keg tun", "b fill waits")
	for i := range 3 {
		h, _ = impl.RunTick(h)
		wantBoard(t, "behind ticks", h, fmt.Sprintf("now %d left %d", i+2, 10-i), fmt.Sprintf("a go for %d keg tun", i+1), "b fill waits")
	}
	h, _ = impl.RunTick(h)
	wantBoard(t, "behind four ticks", h, "now 5 left 7", "b fill for 0 keg", "a saved at 5")
}

// The lines are in the order in which batches began, not in that of their names, and those that ended are behind them.
func TestRunBoardOrdinary(t *testing.T) {
	wantBoard(t, "the house", house(nil),
		"now 40 left 26", "b hold for 2 keg", "a fill waits", "c clean for 0 cask", "x good at 5", "b scrapped at 5", "x saved at 40")
	h := led(t, texts("keg", "tun"), begins(uses("z", "keg")), begins(uses("m", "keg")), begins(uses("a", "tun")), begins(uses("k", "keg")))
	wantBoard(t, "batches alone", h, "now 0 left 8", "z p0 for 0 keg", "m p0 waits", "a p0 for 0 tun", "k p0 waits")
	h, _ = impl.RunSay(h, "a", true)
	wantBoard(t, "one ended", h, "now 0 left 6", "z p0 for 0 keg", "m p0 waits", "k p0 waits", "a good at 0")
	h, _ = impl.RunTick(h)
	h, _ = impl.RunTick(h)
	wantBoard(t, "two ended", h, "now 2 left 4", "m p0 for 0 keg", "k p0 waits", "a good at 0", "z scrapped at 2")
	h, _ = impl.RunSay(h, "m", true)
	h, _ = impl.RunSay(h, "k", false)
	wantBoard(t, "all ended", h, "now 2 left 0", "a good at 0", "z scrapped at 2", "m good at 2", "k scrapped at 2")
}

// With nobody there, and nothing that ended, there is the tick alone.
func TestRunBoardOfNobody(t *testing.T) {
	wantBoard(t, "nothing at all", impl.RunHouse{}, "now 0 left 0")
	wantBoard(t, "things alone", nobody(numbered("t", 8)...), "now 0 left 0")
	h := nobody("keg")
	h.Last = 1000000
	wantBoard(t, "all have been forgotten", h, "now 0 left 0")
	h.Now = 100000
	wantBoard(t, "the last tick", h, "now 100000 left 0")
	h.Dones = []impl.RunDone{{Name: "-", End: 2, Tick: 0}}
	wantBoard(t, "one ended", h, "now 100000 left 0", "- saved at 0")
}

// Of a house that is not ok nothing is told, whatever it is that is broken.
func TestRunBoardOfAHouseThatIsNotOk(t *testing.T) {
	for i, change := range breaks() {
		wantBoard(t, fmt.Sprint("broken ", i), house(change))
	}
	wantBoard(t, "very many", house(veryMany))
	wantBoard(t, "very many that ended", house(func(h *impl.RunHouse) { h.Dones = very(200000, h.Dones[0]) }))
	wantBoard(t, "below the first tick", impl.RunHouse{Now: -1})
	wantBoard(t, "a batch that Share has not", impl.RunHouse{Last: 1, Batches: []impl.RunBatch{uses("a", "keg")}})
	wantBoard(t, "a batch that Share alone has", impl.RunHouse{Share: impl.ShareBook{Batches: []impl.ShareBatch{batch("a", nil, nil)}}})
	for i, b := range []impl.RunBatch{{}, {Name: "a"}, {Name: "a", Start: 1}} {
		h := nobody("keg")
		h.Last, h.Batches, h.Share.Batches = 1, []impl.RunBatch{b}, []impl.ShareBatch{batch("a", nil, nil)}
		wantBoard(t, fmt.Sprint("a batch without a recipe ", i), h)
	}
}

// Who waits may have things, as it keeps what it may yet need.
func TestRunBoardOfWhoWaits(t *testing.T) {
	h := led(t, texts("cask", "keg", "tun", "vat"), begins(uses("x", "tun")), begins(uses("b", "keg", "vat", "tun", "vat", "keg")), begins(uses("a", "tun")))
	wantBoard(t, "none", h, "now 0 left 14", "x p0 for 0 tun", "b p0 for 0 keg", "a p0 waits")
	h, _ = impl.RunSay(h, "b", true)
	wantBoard(t, "none", h, "now 0 left 12", "x p0 for 0 tun", "b p1 for 0 keg vat", "a p0 waits")
	h, _ = impl.RunSay(h, "b", true)
	wantBoard(t, "two", h, "now 0 left 10", "x p0 for 0 tun", "b p2 waits keg vat", "a p0 waits")
	h, _ = impl.RunTick(h)
	wantBoard(t, "two, behind a tick", h, "now 1 left 9", "x p0 for 1 tun", "b p2 waits keg vat", "a p0 waits")
	h, _ = impl.RunSay(h, "x", true)
	wantBoard(t, "it goes on", h, "now 1 left 8", "b p2 for 0 keg tun vat", "a p0 waits", "x good at 1")
	one := led(t, texts("keg", "tun"), begins(uses("x", "tun")), begins(uses("b", "keg", "tun", "keg")), goesWell("b"))
	wantBoard(t, "one", one, "now 0 left 6", "x p0 for 0 tun", "b p1 waits keg")
}

// In a house that no call has led to all may wait, with any of what they need.
func TestRunBoardWhereAllWait(t *testing.T) {
	for told, has := range map[string][]string{"": nil, " keg": texts("keg"), " tun": texts("tun"), " keg tun": texts("keg", "tun")} {
		h := housing(texts("keg", "tun"), [][]string{has, nil}, withStart(uses("b", "tun", "keg"), 1), withStart(uses("a", "keg"), 2))
		wantHouse(t, "all wait", h, 6)
		wantBoard(t, "all wait", h, "now 0 left 6", "b p0 waits"+told, "a p0 waits")
	}
}

// Who goes on has one thing at least, as each phase has a slot; with none the house is not ok.
func TestRunBoardOfWhoGoesOn(t *testing.T) {
	for _, p := range kinds() {
		b := sinceOf(alone(p, "keg", "tun"), 0)
		own := ownByForm(b)
		if len(own) == 0 {
			t.Errorf("%s needs nothing", p.Name)
		}
		things := texts("keg", "tun")
		wantBoard(t, "with nothing", housing(things, [][]string{nil}, b))
		wantBoard(t, "with what it needs", housing(things, [][]string{own}, b), "now 0 left 10", "a "+p.Name+" for 0 "+strings.Join(own, " "))
	}
	all := numbered("t", 8)
	for n := 1; n <= 8; n++ {
		b := sinceOf(uses("a", all...), 1)
		h := housing(all, [][]string{all[:n]}, b)
		wantBoard(t, "with several", h, "now 0 left 15", "a p0 for 1 "+strings.Join(all[:n], " "))
	}
}

// The things are those that it has, not those that its phase needs, nor those that it may yet need.
func TestRunBoardTellsWhatItHas(t *testing.T) {
	b := sinceOf(uses("a", "keg", "tun", "vat", "cask"), 1)
	things := texts("cask", "keg", "tun", "vat")
	wantBoard(t, "what it needs", housing(things, [][]string{texts("keg")}, b), "now 0 left 7", "a p0 for 1 keg")
	wantBoard(t, "and what it may need", housing(things, [][]string{texts("cask", "keg", "vat")}, b), "now 0 left 7", "a p0 for 1 cask keg vat")
	wantBoard(t, "what it may need alone", housing(things, [][]string{texts("cask", "vat")}, sinceOf(b, -1)), "now 0 left 8", "a p0 waits cask vat")
	wantBoard(t, "what it needs, and it waits", housing(things, [][]string{texts("keg")}, sinceOf(b, -1)), "now 0 left 8", "a p0 waits keg")
}

// Numbers of every number of figures.
func TestRunBoardNumbers(t *testing.T) {
	p := kinds()[impl.RecClean-1]
	p.Within = 1000
	for _, n := range []int{0, 1, 9, 10, 11, 99, 100, 101, 500, 998, 999} {
		h := housing(texts("keg"), [][]string{texts("keg")}, sinceOf(alone(p, "keg"), n))
		wantBoard(t, "Since", h, fmt.Sprintf("now 0 left %d", 1000-n), fmt.Sprintf("a clean for %d keg", n))
	}
	for _, n := range []int{0, 1, 9, 10, 99, 100, 999, 1000, 9999, 10000, 99999, 100000} {
		h := nobody()
		h.Now, h.Dones = n, []impl.RunDone{{Name: "a", End: 1, Tick: 0}, {Name: "b", End: 1, Tick: n / 2}, {Name: "c", End: 1, Tick: n}}
		wantBoard(t, "Now and Tick", h, fmt.Sprintf("now %d left 0", n), "a good at 0", fmt.Sprintf("b good at %d", n/2), fmt.Sprintf("c good at %d", n))
	}
	for within := 1; within <= 1000; within++ {
		p.Within = within
		h := housing(texts("keg"), [][]string{nil}, alone(p, "keg"))
		wantBoard(t, "RunLeft", h, fmt.Sprintf("now 0 left %d", within), "a clean waits")
	}
}

// As much is left as there can be, of five with twelve phases each.
func TestRunBoardMostLeft(t *testing.T) {
	var events []event
	lines := texts("now 0 left 60000")
	for i := range 5 {
		r := chain(12)
		for j := range r {
			r[j].A = "s"
		}
		name := fmt.Sprint("longnam", 5-i)
		events = append(events, begins(impl.RunBatch{Name: name, Recipe: r, Slots: slotted("s", "longkegs")}))
		lines = append(lines, name+" pa waits")
	}
	lines[1] = "longnam5 pa for 0 longkegs"
	wantBoard(t, "the most", led(t, texts("longkegs"), events...), lines...)
}

func TestRunBoardEnds(t *testing.T) {
	for end := 1; end <= 3; end++ {
		h := nobody()
		h.Now, h.Dones = 7, []impl.RunDone{{Name: "a", End: end, Tick: 3}}
		wantBoard(t, "an end", h, "now 7 left 0", "a "+ends[end]+" at 3")
		b := uses("a", "keg")
		b.Recipe[0].Then = ends[end]
		h = led(t, texts("keg"), begins(b), ticks(), goesWell("a"))
		wantBoard(t, "an end that it came to", h, "now 1 left 0", "a "+ends[end]+" at 1")
	}
	for number, name := range map[int]string{0: "", 1: "good", 2: "saved", 3: "scrapped", 4: "", -1: ""} {
		h := nobody()
		h.Dones = []impl.RunDone{{Name: "a", End: number}}
		if name == "" {
			wantBoard(t, "no end", h)
		} else {
			wantBoard(t, name, h, "now 0 left 0", "a "+name+" at 0")
		}
	}
}

// As many that ended as there can be, of one tick, and of several; one more is told of no longer, or breaks the house.
func TestRunBoardMostDones(t *testing.T) {
	for _, n := range []int{1, 2, 19, 20, 21} {
		h := house(func(h *impl.RunHouse) { h.Dones = endings(n, 40) })
		lines := texts("now 40 left 26", "b hold for 2 keg", "a fill waits", "c clean for 0 cask")
		for range n {
			lines = append(lines, "x good at 40")
		}
		if n > 20 {
			lines = nil
		}
		wantBoard(t, fmt.Sprint(n, " ended"), h, lines...)
	}
	h := led(t, texts("keg"))
	lines := texts("now 30 left 0")
	for i := range 30 {
		name := fmt.Sprint("b", i)
		h, _ = impl.RunStart(h, name, uses(name, "keg").Recipe, slotted("s0", "keg"))
		h, _ = impl.RunSay(h, name, i%2 == 0)
		h, _ = impl.RunTick(h)
		if i >= 10 {
			lines = append(lines, fmt.Sprintf("%s %s at %d", name, ends[1+i%2*2], i))
		}
	}
	wantBoard(t, "the last 20", h, lines...)
	h, _ = impl.RunStart(h, "new", uses("new", "keg").Recipe, slotted("s0", "keg"))
	wantBoard(t, "and one begins", h, append(texts("now 30 left 2", "new p0 for 0 keg"), lines[1:]...)...)
}

// As many batches as there can be: all go on, or one alone does.
func TestRunBoardMostBatches(t *testing.T) {
	h := led(t, numbered("t", 5), append(crowd(0), ticks())...)
	wantBoard(t, "all go on", h, "now 1 left 5", "b5 p0 for 1 t0", "b4 p0 for 1 t1", "b3 p0 for 1 t2", "b2 p0 for 1 t3", "b1 p0 for 1 t4")
	var events []event
	for _, name := range texts("d", "a", "e", "b", "c") {
		events = append(events, begins(uses(name, "keg")))
	}
	h = led(t, texts("keg"), events...)
	wantBoard(t, "one goes on", h, "now 0 left 10", "d p0 for 0 keg", "a p0 waits", "e p0 waits", "b p0 waits", "c p0 waits")
	h, _ = impl.RunSay(h, "d", false)
	wantBoard(t, "four are left", h, "now 0 left 8", "a p0 for 0 keg", "e p0 waits", "b p0 waits", "c p0 waits", "d scrapped at 0")
	h.Dones = endings(20, 0)
	if lines := strings.Count(wantBoardAsSaid(t, h), "\n"); lines != 25 {
		t.Errorf("%d lines", lines)
	}
}

// Names may be the words of a board, and numbers; who ended may be called like who is there.
func TestRunBoardNamesThatAreItsWords(t *testing.T) {
	things := texts("0", "at", "for", "waits")
	one := impl.RunBatch{Name: "now", Slots: slotted("good", "waits", "saved", "at"), At: "waits", Since: 0, Start: 1, Recipe: []impl.RecPhase{
		{Name: "waits", Kind: impl.RecMove, A: "saved", B: "good", N: 1, Within: 2, Then: "for", Else: "saved"},
		{Name: "for", Kind: impl.RecTest, A: "good", Within: 2, Then: "good", Else: "saved"},
	}}
	other := sinceOf(withStart(uses("left", "0", "for"), 2), -1)
	h := housing(things, [][]string{texts("at", "waits"), texts("for")}, one, other)
	h.Dones = []impl.RunDone{{Name: "now", End: 1}, {Name: "good", End: 2}, {Name: "0", End: 3}, {Name: "now", End: 1}}
	wantBoard(t, "words", h, "now 0 left 8", "now waits for 0 at waits", "left p0 waits for",
		"now good at 0", "good saved at 0", "0 scrapped at 0", "now good at 0")
	h, _ = impl.RunSay(h, "now", true)
	wantBoard(t, "words, when it went well", h, "now 0 left 6", "now for for 0 waits", "left p0 for 0 0 for",
		"now good at 0", "good saved at 0", "0 scrapped at 0", "now good at 0")
}

// The board of the house that README.md ends with.
func TestRunBoardOfTheExample(t *testing.T) {
	h := led(t, texts("keg", "tun"), pours("a", "tun", "keg"), pours("b", "keg", "tun"), ticks(), goesWell("a"), goesBadly("a"))
	wantBoard(t, "the example", h, "now 1 left 7", "b fill for 0 keg", "a saved at 1")
}

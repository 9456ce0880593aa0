package tests

import (
	"slices"
	"strings"
	"testing"

	"loop.example/maltrun/impl"
)

func TestShareMovesOrdinary(t *testing.T) {
	b := cellar()
	wantMoves(t, b, false, "b", "c")
	wantWaits(t, b, "a", "d")
	wantWaits(t, b, "b")
	wantWaits(t, b, "c")
	wantWaits(t, b, "d", "b")
	b.Batches[1].Needs = texts("tun", "vat")
	wantMoves(t, b, false, "c")
	wantWaits(t, b, "b", "d")
	wantMoves(t, pair(), false, "a")
	wantWaits(t, pair(), "a")
	wantWaits(t, pair(), "b", "a")
	wantMoves(t, full(), false, numbered("b", 5)...)
}

func TestShareMovesOfNobody(t *testing.T) {
	for _, b := range []impl.ShareBook{{}, {Things: texts(), Batches: []impl.ShareBatch{}}, {Things: texts("keg")}, {Things: numbered("t", 8)}} {
		wantMoves(t, b, false)
		for _, name := range texts("", "a", "keg", "t0", "no name") {
			wantWaits(t, b, name)
		}
	}
}

// Who is there alone moves, whatever it has and needs; and so does each of several, as long as no other one has what it needs.
func TestShareMovesOfEachSort(t *testing.T) {
	things := texts("keg", "tun", "vat")
	other := batch("o", texts("vat"), texts("vat"))
	for _, one := range []struct {
		why   string
		batch impl.ShareBatch
		waits []string
	}{
		{"needs nothing", batch("a", nil, nil), nil},
		{"has all it needs", batch("a", texts("keg", "tun"), texts("keg", "tun")), nil},
		{"needs what nobody has", batch("a", nil, texts("keg", "tun")), nil},
		{"has some, and needs what nobody has", batch("a", texts("tun"), texts("keg", "tun")), nil},
		{"needs what another has", batch("a", nil, texts("vat")), texts("o")},
		{"needs some that nobody has, and some that another has", batch("a", nil, things), texts("o")},
		{"has some, and needs what another has", batch("a", texts("keg", "tun"), things), texts("o")},
	} {
		alone := impl.ShareBook{Things: things, Batches: []impl.ShareBatch{one.batch}}
		wantMoves(t, alone, false, "a")
		wantWaits(t, alone, "a")
		for _, name := range texts("a", "z") {
			mine := one.batch
			mine.Name = name
			b := impl.ShareBook{Things: things, Batches: []impl.ShareBatch{mine, other}}
			slices.SortFunc(b.Batches, func(x, y impl.ShareBatch) int { return strings.Compare(x.Name, y.Name) })
			want := batchNames(b)
			if one.waits != nil {
				want = texts("o")
			}
			wantMoves(t, b, false, want...)
			wantWaits(t, b, name, one.waits...)
			wantWaits(t, b, "o")
		}
		if t.Failed() {
			t.Fatal(one.why)
		}
	}
}

// A batch that has all things, or some that it alone needs, would wait on itself alone: it waits on nobody.
func TestShareWaitsOnNobodyByItself(t *testing.T) {
	things := numbered("t", 8)
	for _, has := range everyPart(things) {
		b := impl.ShareBook{Things: things, Batches: []impl.ShareBatch{batch("a", nil, nil), batch("b", has, things), batch("c", nil, nil)}}
		wantMoves(t, b, false, "a", "b", "c")
		wantWaits(t, b, "b")
		b.Batches[0].Needs = things
		if len(has) > 0 {
			wantMoves(t, b, false, "b", "c")
			wantWaits(t, b, "a", "b")
		}
		wantWaits(t, b, "b")
	}
}

// A name of no batch, or a text that is no name, waits on nobody, whatever it is like.
func TestShareWaitsOfNoBatch(t *testing.T) {
	for _, b := range []impl.ShareBook{{}, cellar(), pair(), full(), ring(2), ring(5), line(4), roomy(3)} {
		names := append(texts("new", "0", "-", "aa", "b00", "bb", "zzzzzzzz", "A", "a ", " a", "a\x00", "b0\x00"), notNames()...)
		for _, name := range append(names, b.Things...) {
			wantWaits(t, b, name)
		}
	}
}

func TestShareMovesOfWhatIsNotOk(t *testing.T) {
	for _, b := range booksNotOk() {
		wantMoves(t, b, false)
		names := append(texts("a", "b", "c", "d", "new", "", "no name"), batchNames(b)[:min(6, len(b.Batches))]...)
		for _, name := range names {
			wantWaits(t, b, name)
		}
	}
	spoilt := ring(3)
	spoilt.Batches[0].Needs = texts("t1", "t0")
	wantMoves(t, spoilt, false)
	wantWaits(t, spoilt, "b0")
	wantWaits(t, spoilt, "b1")
}

// All in a ring wait on the next one, so they are stuck; in a line the last one moves.
func TestShareMovesOfRingsAndLines(t *testing.T) {
	for n := 2; n <= 5; n++ {
		names := numbered("b", n)
		wantMoves(t, ring(n), true)
		wantMoves(t, roomy(n), true)
		wantMoves(t, line(n), false, names[n-1])
		wantMoves(t, circle(n), false, names[n-2])
		for i, name := range names {
			next := names[(i+1)%n]
			wantWaits(t, ring(n), name, next)
			wantWaits(t, roomy(n), name, next)
			if i < n-1 {
				wantWaits(t, line(n), name, next)
			}
		}
		wantWaits(t, line(n), names[n-1])
		wantWaits(t, circle(n), names[n-2])
		wantWaits(t, circle(n), names[n-1], names[0])
	}
	wantWaits(t, ring(2), "b0", "b1")
	wantWaits(t, ring(2), "b1", "b0")
}

// What is not safe need not be stuck: somebody beside a ring moves, though the ring never will.
func TestShareStuckIsMoreThanNotSafe(t *testing.T) {
	for n := 2; n <= 4; n++ {
		for _, name := range texts("a", "b00", "c") {
			b, code := impl.ShareEnter(ring(n), name, nil)
			if code != 0 || impl.ShareSafe(b) {
				t.Fatalf("%q %d", b, code)
			}
			wantMoves(t, b, false, name)
			b, _ = impl.ShareEnter(ring(n), name, texts("t0"))
			wantMoves(t, b, true)
			wantWaits(t, b, name, "b0")
			wantWaits(t, b, "b0", "b1")
		}
	}
}

// Any of five may be those who move, and those who do not wait on one; they are told in order.
func TestShareMovesAnyOfFive(t *testing.T) {
	names := texts("-", "0", "a", "a-", "b")
	for _, moves := range everyPart(names)[1:] {
		b := impl.ShareBook{Things: texts("keg", "tun"), Batches: batchesCalled(names...)}
		for i, name := range names {
			if name == moves[0] {
				b.Batches[i].Has = texts("keg")
			}
			if name == moves[0] || !slices.Contains(moves, name) {
				b.Batches[i].Needs = texts("keg")
			}
		}
		wantMoves(t, b, false, moves...)
		for _, name := range names {
			if slices.Contains(moves, name) {
				wantWaits(t, b, name)
			} else {
				wantWaits(t, b, name, moves[0])
			}
		}
	}
}

// A batch may wait on any of the four others; they are told in order, and do not wait on it.
func TestShareWaitsOnAnyOfFour(t *testing.T) {
	names := texts("-", "0", "a", "a-", "b")
	for own, name := range names {
		others := slices.Delete(slices.Clone(names), own, own+1)
		for _, waits := range everyPart(others) {
			b := impl.ShareBook{Things: numbered("t", 5)}
			for i, other := range names {
				b.Batches = append(b.Batches, batch(other, b.Things[i:i+1], b.Things[i:i+1]))
			}
			needs := texts(b.Things[own])
			for _, other := range waits {
				needs = append(needs, hasOf(b, other)...)
			}
			b.Batches[own].Needs = sorted(needs)
			wantWaits(t, b, name, waits...)
			for _, other := range others {
				wantWaits(t, b, other)
			}
			moves := others
			if len(waits) == 0 {
				moves = names
			}
			wantMoves(t, b, false, moves...)
		}
	}
}

// Who has several things that another needs is told once.
func TestShareWaitsTellsEachOnce(t *testing.T) {
	things := numbered("t", 8)
	b := impl.ShareBook{Things: things, Batches: []impl.ShareBatch{batch("a", things[:3], things[:3]), batch("b", nil, things), batch("c", things[3:], things[3:])}}
	wantWaits(t, b, "b", "a", "c")
	wantMoves(t, b, false, "a", "c")
	b.Batches[0].Needs, b.Batches[2].Needs = things, things
	wantWaits(t, b, "a", "c")
	wantWaits(t, b, "b", "a", "c")
	wantWaits(t, b, "c", "a")
	wantMoves(t, b, true)
}

// Each of the eight things alone lets one wait on who has it.
func TestShareWaitsAsksEachThing(t *testing.T) {
	things := numbered("t", 8)
	for i, thing := range things {
		for j, other := range things {
			b := impl.ShareBook{Things: things, Batches: []impl.ShareBatch{batch("a", nil, texts(thing)), batch("b", texts(other), texts(other))}}
			if i == j {
				wantMoves(t, b, false, "b")
				wantWaits(t, b, "a", "b")
			} else {
				wantMoves(t, b, false, "a", "b")
				wantWaits(t, b, "a")
			}
			wantWaits(t, b, "b")
		}
		rest := slices.DeleteFunc(slices.Clone(things), func(other string) bool { return other == thing })
		b := impl.ShareBook{Things: things, Batches: []impl.ShareBatch{batch("a", rest, things), batch("b", texts(thing), texts(thing))}}
		wantMoves(t, b, false, "b")
		b.Batches[1].Needs = things
		wantMoves(t, b, true)
	}
}

func TestShareMovesAsTheDocumentSays(t *testing.T) {
	stuck, some, all := 0, 0, 0
	eachMoving(&dice{state: 33}, func(b impl.ShareBook) {
		wantMovesAsSaid(t, b, "new", "", "t0")
		switch {
		case impl.ShareStuck(b):
			stuck++
		case len(impl.ShareMoves(b)) == len(b.Batches):
			all++
		default:
			some++
		}
	})
	if stuck < 2000 || some < 5000 || all < 5000 {
		t.Errorf("too few of a sort: %d %d %d", stuck, some, all)
	}
}

package tests

import (
	"fmt"
	"slices"
	"strings"
	"testing"

	"loop.example/maltrun/impl"
)

// movesByForm is by the document's words who can have all they need, nobody being gone.
func movesByForm(b impl.ShareBook) []string {
	var moves []string
	if bookOkByForm(b) {
		for _, name := range batchNames(b) {
			if canByForm(b, name, nil) {
				moves = append(moves, name)
			}
		}
	}
	return moves
}

// waitsByForm is by the document's words the others who have anything of what a batch needs.
func waitsByForm(b impl.ShareBook, name string) []string {
	var waits []string
	if bookOkByForm(b) {
		for _, other := range b.Batches {
			if other.Name != name && len(both(other.Has, needsOf(b, name))) > 0 {
				waits = append(waits, other.Name)
			}
		}
	}
	return waits
}

// stuckByForm says by the document's words whether somebody is there, and nobody can have all they need.
func stuckByForm(b impl.ShareBook) bool {
	return bookOkByForm(b) && len(b.Batches) > 0 && len(movesByForm(b)) == 0
}

// wantMoves holds what ShareMoves and ShareStuck answer against those who move; stuck is where somebody is there, and none moves.
func wantMoves(t *testing.T, b impl.ShareBook, stuck bool, want ...string) {
	t.Helper()
	if moves := impl.ShareMoves(b); !slices.Equal(moves, want) {
		t.Errorf("ShareMoves(%.300q) is %q, should be %q", b, moves, want)
	}
	if is := impl.ShareStuck(b); is != stuck {
		t.Errorf("ShareStuck(%.300q) is %v, should be %v", b, is, stuck)
	}
}

// wantWaits holds what ShareWaits answers of a name against what it should.
func wantWaits(t *testing.T, b impl.ShareBook, name string, want ...string) {
	t.Helper()
	if waits := impl.ShareWaits(b, name); !slices.Equal(waits, want) {
		t.Errorf("ShareWaits(%.300q, %.20q) is %q, should be %q", b, name, waits, want)
	}
}

// wantMovesAsSaid holds what the three functions answer of a book against the document's words, of each batch and of these names.
func wantMovesAsSaid(t *testing.T, b impl.ShareBook, names ...string) {
	t.Helper()
	wantMoves(t, b, stuckByForm(b), movesByForm(b)...)
	for _, name := range append(batchNames(b), names...) {
		wantWaits(t, b, name, waitsByForm(b, name)...)
	}
	if t.Failed() {
		t.FailNow()
	}
}

// moving are the sizes of the books, each of which is looked at.
var moving = [][2]int{{0, 0}, {8, 0}, {0, 5}, {1, 1}, {8, 1}, {4, 2}, {3, 3}, {2, 4}, {1, 5}}

// eachMoving hands out books that are ok: each small one, and ones made by chance, of all sorts.
func eachMoving(d *dice, each func(b impl.ShareBook)) {
	for _, size := range moving {
		for _, b := range everyBook(size[0], size[1]) {
			each(b)
		}
	}
	for i := range 6000 {
		each(d.okBook(i%9, i/9%6))
		each(d.tightBook(i%9, i/9%6))
		each(d.crowdedBook(i%9, i/9%6))
		each(d.knotBook())
	}
	for n := 2; n <= 5; n++ {
		for _, b := range []impl.ShareBook{ring(n), line(n), circle(n), roomy(n)} {
			each(b)
		}
	}
}

// crowdedBook makes a book, of so many things and batches, nearly all of whose things are had, and needed by some others.
func (d *dice) crowdedBook(things, batches int) impl.ShareBook {
	b := impl.ShareBook{Things: d.namesUpTo(things), Batches: batchesCalled(d.namesUpTo(batches)...)}
	chances := 1 + d.below(5)
	for _, thing := range b.Things {
		holder := d.below(batches + 1)
		for i := range b.Batches {
			one := &b.Batches[i]
			if i == holder {
				one.Has = append(one.Has, thing)
			}
			if i == holder || d.below(10) < chances {
				one.Needs = append(one.Needs, thing)
			}
		}
	}
	return b
}

// knotBook makes a book that is not safe: a ring, and others beside it, some of whom move, or wait on the ring or each other.
func (d *dice) knotBook() impl.ShareBook {
	b := ring(2 + d.below(3))
	free := numbered("u", 4)
	b.Things = append(b.Things, free...)
	for _, name := range sorted(texts(pick(d, texts("a", "b00", "c")), pick(d, texts("aa", "b10", "cc"))))[:min(2, 5-len(b.Batches))] {
		has := d.someOf(free, 3)
		free = slices.DeleteFunc(free, func(thing string) bool { return slices.Contains(has, thing) })
		b.Batches = append(b.Batches, batch(name, has, sorted(append(d.someOf(b.Things, 2), has...))))
	}
	slices.SortFunc(b.Batches, func(one, other impl.ShareBatch) int { return strings.Compare(one.Name, other.Name) })
	return b
}

// ledTo hands out each book that the four of chapter 13 lead to, by any calls with these names, from one with so many things
// alone; and how many there are.
func ledTo(things int, names []string, each func(b impl.ShareBook)) int {
	first := impl.ShareBook{Things: numbered("t", things)}
	seen := map[string]bool{fmt.Sprint(first): true}
	books := []impl.ShareBook{first}
	for at := 0; at < len(books); at++ {
		b := books[at]
		each(b)
		for _, name := range names {
			for _, list := range everyPart(b.Things) {
				for _, what := range theFour {
					after, _ := call{what, name, list}.do(b)
					if said := fmt.Sprint(after); !seen[said] {
						seen[said] = true
						books = append(books, after)
					}
				}
			}
		}
	}
	return len(books)
}

// everyBookOf is each book that is ok, of so many things, and of any of these names.
func everyBookOf(things int, names []string) []impl.ShareBook {
	var all []impl.ShareBook
	for _, some := range everyPart(names) {
		for _, b := range everyBook(things, len(some)) {
			for i, name := range some {
				b.Batches[i].Name = name
			}
			all = append(all, b)
		}
	}
	return all
}

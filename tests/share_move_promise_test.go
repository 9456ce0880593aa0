package tests

import (
	"fmt"
	"slices"
	"testing"

	"loop.example/maltrun/impl"
)

// wantNobodyStuck: the book is safe, and not stuck.
func wantNobodyStuck(t *testing.T, b impl.ShareBook) {
	t.Helper()
	if !impl.ShareSafe(b) || impl.ShareStuck(b) || !safeByForm(b) {
		t.Fatalf("the four led to %q: ShareSafe is %v, ShareStuck %v, ShareMoves %q", b, impl.ShareSafe(b), impl.ShareStuck(b), impl.ShareMoves(b))
	}
}

// wantAllGo: if again and again the first of ShareMoves asks for all it has not and may need, and goes, all go; how many went.
func wantAllGo(t *testing.T, b impl.ShareBook) int {
	t.Helper()
	went := 0
	for len(b.Batches) > 0 {
		moves := impl.ShareMoves(b)
		if len(moves) == 0 {
			t.Fatalf("nobody of %q moves", b)
		}
		name := moves[0]
		needs, has := needsOf(b, name), hasOf(b, name)
		rest := slices.DeleteFunc(slices.Clone(needs), func(thing string) bool { return slices.Contains(has, thing) })
		given, code := impl.ShareAsk(b, name, rest)
		if code != 0 || !slices.Equal(hasOf(given, name), needs) {
			t.Fatalf("%q moves in %q, and asks for %q: code %d, and it has %q", name, b, rest, code, hasOf(given, name))
		}
		wantNobodyStuck(t, given)
		left, code := impl.ShareLeave(given, name)
		if code != 0 || len(left.Batches) != len(b.Batches)-1 {
			t.Fatalf("%q goes from %q: code %d, and %q are left", name, given, code, batchNames(left))
		}
		wantNobodyStuck(t, left)
		b = left
		went++
	}
	return went
}

// Promise 9, of each book that the four lead to from few things, by few names: these are just those that are safe.
func TestPromise9OfEachSmallBook(t *testing.T) {
	for things, count := range []int{5, 5, 3, 2} {
		names := numbered("b", count)
		safe := 0
		for _, b := range everyBookOf(things, names) {
			if safeByForm(b) {
				safe++
			}
		}
		led := ledTo(things, names, func(b impl.ShareBook) {
			wantNobodyStuck(t, b)
			if went := wantAllGo(t, b); went != len(b.Batches) {
				t.Fatalf("%d of %q went", went, b)
			}
		})
		if led != safe {
			t.Errorf("with %d things and %d names the four lead to %d books, %d are safe", things, count, led, safe)
		}
	}
}

// Promise 9, behind each of many calls, with any number of things.
func TestPromise9OfManyBooks(t *testing.T) {
	d := &dice{state: 34}
	var seen [6]int
	held := 0
	for i := range 400 {
		look := func(b impl.ShareBook) {
			wantNobodyStuck(t, b)
			went := wantAllGo(t, b)
			seen[went]++
			if len(impl.ShareMoves(b)) < went {
				held++
			}
		}
		look(d.walk(i%9, 40, func(b impl.ShareBook, c call) { look(b) }))
	}
	if slices.Min(seen[:]) < 200 || held < 1000 {
		t.Errorf("too few of a sort: %v, and in %d somebody waits", seen, held)
	}
}

// The last words of promise 11: who is of ShareMoves may ask for any of its Needs, and has it; it is never refused with 6.
func TestPromise11WhoMovesIsNotRefused(t *testing.T) {
	seen := map[string]int{}
	look := func(b impl.ShareBook) {
		safe := impl.ShareSafe(b)
		for _, name := range impl.ShareMoves(b) {
			for _, things := range everyPart(needsOf(b, name)) {
				after, code := impl.ShareAsk(b, name, things)
				if code != 0 {
					t.Fatalf("%q moves in %q, and asks for %q: code %d", name, b, things, code)
				}
				if safe && !impl.ShareSafe(after) {
					t.Fatalf("%q moves in %q, and asks for %q: not safe any more", name, b, things)
				}
				if !slices.Contains(impl.ShareMoves(after), name) {
					t.Fatalf("%q moves in %q, but not when it has %q, too", name, b, things)
				}
			}
			seen[fmt.Sprint("moves, ", safe)]++
		}
		for _, one := range b.Batches {
			if _, code := impl.ShareAsk(b, one.Name, one.Needs); code == 6 || code == 0 && len(waitsByForm(b, one.Name)) > 0 {
				t.Fatalf("%q asks for all it needs in %q: code %d", one.Name, b, code)
			}
			for _, thing := range one.Needs {
				if _, code := impl.ShareAsk(b, one.Name, texts(thing)); code == 6 {
					seen["refused with 6"]++
				}
			}
		}
	}
	d := &dice{state: 35}
	for _, size := range [][2]int{{0, 2}, {1, 1}, {2, 3}, {3, 2}, {1, 5}} {
		for _, b := range everyBook(size[0], size[1]) {
			look(b)
		}
	}
	for i := range 500 {
		look(d.okBook(i%9, i/9%6))
		look(d.tightBook(i%9, i/9%6))
		look(d.crowdedBook(i%9, i/9%6))
		look(d.knotBook())
	}
	for i := range 40 {
		d.walk(i%9, 20, func(b impl.ShareBook, c call) { look(b) })
	}
	if seen["moves, true"] < 1000 || seen["moves, false"] < 200 || seen["refused with 6"] < 200 {
		t.Errorf("too few of a sort: %v", seen)
	}
}

// wantMovesOrWaits: who is of ShareMoves waits on nobody, and the other way round; how many do which.
func wantMovesOrWaits(t *testing.T, b impl.ShareBook) (moves, waits int) {
	t.Helper()
	all := impl.ShareMoves(b)
	for _, name := range batchNames(b) {
		on := impl.ShareWaits(b, name)
		if slices.Contains(all, name) != (len(on) == 0) {
			t.Fatalf("%q: %q are of ShareMoves, and %q waits on %q", b, all, name, on)
		}
		if len(on) == 0 {
			moves++
		} else {
			waits++
		}
	}
	return moves, waits
}

func TestPromise14WhoMovesWaitsOnNobody(t *testing.T) {
	move, wait := map[string]int{}, map[string]int{}
	look := func(b impl.ShareBook) {
		sort := fmt.Sprint("safe ", impl.ShareSafe(b), ", stuck ", impl.ShareStuck(b))
		moves, waits := wantMovesOrWaits(t, b)
		move[sort] += moves
		wait[sort] += waits
	}
	d := &dice{state: 36}
	eachMoving(d, look)
	for i := range 100 {
		d.walk(i%9, 40, func(b impl.ShareBook, c call) { look(b) })
	}
	for _, sort := range texts("safe true, stuck false", "safe false, stuck false", "safe false, stuck true") {
		if wait[sort] < 2000 || move[sort] < 2000 && sort != "safe false, stuck true" {
			t.Errorf("%s: only %d move, and %d wait", sort, move[sort], wait[sort])
		}
	}
	if len(move) != 3 || move["safe false, stuck true"] != 0 {
		t.Errorf("books of another sort: %v", move)
	}
}

func TestPromise15WhatIsStuckIsNotSafe(t *testing.T) {
	seen := map[string]int{}
	eachMoving(&dice{state: 37}, func(b impl.ShareBook) {
		stuck, safe := impl.ShareStuck(b), impl.ShareSafe(b)
		if stuck && (safe || safeByForm(b)) {
			t.Fatalf("%q is stuck, and safe", b)
		}
		for _, order := range allOrders(batchNames(b)) {
			if stuck && impl.ShareFits(b, order) {
				t.Fatalf("%q is stuck, though %q fits", b, order)
			}
		}
		seen[fmt.Sprint(stuck, " ", safe)]++
	})
	if seen["true false"] < 2000 || seen["false false"] < 500 || seen["false true"] < 5000 {
		t.Errorf("too few of a sort: %v", seen)
	}
}

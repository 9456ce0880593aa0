package tests

import (
	"fmt"
	"slices"
	"testing"

	"loop.example/maltrun/impl"
)

// wantHadByAnother: of what was refused with 5, somebody else has some.
func wantHadByAnother(t *testing.T, b impl.ShareBook, c call) {
	t.Helper()
	for _, thing := range c.list {
		if who := impl.ShareWho(b, thing); who != "" && who != c.name {
			return
		}
	}
	t.Fatalf("%q: %v is refused with 5, though nobody else has any of it", b, c)
}

// wantNoOrder: behind what was refused with 6, no order of all would fit.
func wantNoOrder(t *testing.T, b impl.ShareBook, c call) {
	t.Helper()
	after := c.afterByForm(b)
	for _, order := range allOrders(batchNames(after)) {
		if fitsByForm(after, order) || impl.ShareFits(after, order) {
			t.Fatalf("%q: %v is refused with 6, though %q would fit", b, c, order)
		}
	}
}

func TestPromise11NothingIsRefusedNeedlessly(t *testing.T) {
	seen := map[int]int{}
	eachAsked(&dice{state: 28}, func(led bool, b impl.ShareBook, c call) {
		if c.what != ask {
			return
		}
		_, code := c.do(b)
		switch code {
		case 5:
			wantHadByAnother(t, b, c)
		case 6:
			wantNoOrder(t, b, c)
		}
		if led && !safeByForm(b) {
			t.Fatalf("the four led to %q, which is not safe", b)
		}
		seen[code]++
	})
	if seen[0] < 2000 || seen[5] < 2000 || seen[6] < 500 {
		t.Errorf("too few of a sort: %v", seen)
	}
}

func TestPromise12WhatIsSafeStaysSafe(t *testing.T) {
	seen := map[string]int{}
	eachAsked(&dice{state: 29}, func(led bool, b impl.ShareBook, c call) {
		if c.what == ask || !safeByForm(b) {
			return
		}
		after, code := c.do(b)
		if !impl.ShareSafe(after) || !safeByForm(after) {
			t.Fatalf("%q: %v leaves %q, which is not safe", b, c, after)
		}
		if code == 0 {
			seen[fmt.Sprint(c.what, " ", led)]++
		}
	})
	for _, what := range []string{enter, less, leave} {
		for _, led := range []bool{false, true} {
			if said := fmt.Sprint(what, " ", led); seen[said] < 200 {
				t.Errorf("%s only %d times", said, seen[said])
			}
		}
	}
}

func TestPromise13WhatIsGivenIsHad(t *testing.T) {
	given, kept := 0, 0
	eachAsked(&dice{state: 30}, func(led bool, b impl.ShareBook, c call) {
		after, code := c.do(b)
		wantEachHadByOne(t, b, c, after)
		if c.what != ask {
			return
		}
		for _, thing := range b.Things {
			want := impl.ShareWho(b, thing)
			if code == 0 && slices.Contains(c.list, thing) {
				want = c.name
				given++
			} else {
				kept++
			}
			wantWho(t, after, thing, want)
		}
		if t.Failed() {
			t.Fatalf("%q: %v", b, c)
		}
	})
	if given < 2000 || kept < 2000 {
		t.Errorf("too few of a sort: %d %d", given, kept)
	}
}

// wantEachHadByOne: in the book that a call left of one that is ok each thing is had by at most one, who needs it.
func wantEachHadByOne(t *testing.T, b impl.ShareBook, c call, after impl.ShareBook) {
	t.Helper()
	if !bookOkByForm(after) || !impl.ShareBookOk(after) {
		t.Fatalf("%q: %v leaves %q, which is not ok", b, c, after)
	}
	for _, thing := range after.Things {
		var had []string
		for _, one := range after.Batches {
			if slices.Contains(one.Has, thing) {
				had = append(had, one.Name)
			}
		}
		if len(had) > 1 || len(had) == 1 && !slices.Contains(needsOf(after, had[0]), thing) {
			t.Fatalf("%q: %v leaves %q, where %q have %q", b, c, after, had, thing)
		}
	}
}

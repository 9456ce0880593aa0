package tests

import (
	"fmt"
	"slices"
	"testing"

	"loop.example/maltrun/impl"
)

// guarded is a recipe with phases behind its end, which no call may write into.
func guarded(r []impl.RecPhase) []impl.RecPhase {
	behind := impl.RecPhase{Name: "behind", Kind: 77}
	return append(slices.Clone(r), behind, behind, behind)[:len(r)]
}

// toldOf asks each function of chapters 1 and 2, and answers with all they told.
func toldOf(r []impl.RecPhase, from string, end int) string {
	told := fmt.Sprintf("%v %q %v %v %v", impl.RecOk(r), impl.RecSlots(r, from), impl.RecBound(r, from), impl.RecCan(r, from, end), impl.RecEnd(from))
	for _, p := range r {
		told += fmt.Sprint(" ", impl.RecPhaseOk(p))
	}
	return told
}

// Each function answers at every argument, the same when asked again, and writes into none.
func TestRecAnswersAtEveryArgument(t *testing.T) {
	d := &dice{state: 6}
	for range 20000 {
		r := guarded(d.anyRecipe())
		all := r[:cap(r)]
		kept := slices.Clone(all)
		from, end := pick(d, append(phaseNames(r), oddTexts...)), pick(d, oddNumbers)
		first := toldOf(r, from, end)
		if again := toldOf(r, from, end); again != first {
			t.Fatalf("told %s, and then %s", first, again)
		}
		if !slices.Equal(all, kept) {
			t.Fatalf("an argument was written into: %v, was %v", all, kept)
		}
		if !recipeOkByForm(r) && (impl.RecSlots(r, from) != nil || impl.RecBound(r, from) != 0 || impl.RecCan(r, from, end)) {
			t.Fatalf("something is told of %v, which is not ok", r)
		}
	}
}

func TestRecSlotsIsNewMemory(t *testing.T) {
	d := &dice{state: 7}
	for range 500 {
		r := guarded(d.okRecipe())
		kept := slices.Clone(r[:cap(r)])
		var lists [][]string
		for _, p := range r {
			lists = append(lists, impl.RecSlots(r, p.Name), impl.RecSlots(r, p.Name))
		}
		before := fmt.Sprintf("%q", lists[1:])
		scribble(lists[0])
		if after := fmt.Sprintf("%q", lists[1:]); after != before {
			t.Fatalf("two answers share memory: %s, was %s", after, before)
		}
		for _, list := range lists {
			scribble(list)
		}
		if !slices.Equal(r[:cap(r)], kept) {
			t.Fatal("an answer shares memory with the recipe")
		}
		if got := fmt.Sprintf("%q", impl.RecSlots(r, r[len(r)-1].Name)); got != fmt.Sprintf("%q", sorted(way{phases: r[len(r)-1:]}.slots())) {
			t.Fatalf("an answer is kept from call to call: %s", got)
		}
	}
}

// scribble writes all over a list, its spare room included.
func scribble(list []string) {
	list = list[:cap(list)]
	for i := range list {
		list[i] = "scribble"
	}
}

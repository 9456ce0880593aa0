package tests

import (
	"fmt"
	"slices"
	"strings"
	"testing"
	"unsafe"

	"loop.example/maltrun/impl"
)

const brewText = `fill fill s2 malt 5 within 10 then hold else wash
odd test s9 within 1000 then move else scrapped
hold hold s2 4 within 4 then move else move
wash clean s4 within 6 then move else scrapped
move move s3 s1 1000 within 7 then good else saved
`

func TestRecPrintWritesEachForm(t *testing.T) {
	if got := impl.RecPrint(brew()); got != brewText {
		t.Errorf("RecPrint is %q, should be %q", got, brewText)
	}
	for _, p := range kinds() {
		if got, want := impl.RecPrint([]impl.RecPhase{p}), lineOf(p)+"\n"; got != want {
			t.Errorf("RecPrint is %q, should be %q", got, want)
		}
	}
}

func TestRecPrintOfWhatIsNotOk(t *testing.T) {
	high := []impl.RecPhase{phase(func(p *impl.RecPhase) { p.Kind = 6 })}
	below := []impl.RecPhase{phase(func(p *impl.RecPhase) { p.Kind = -1 })}
	for _, r := range append(notOk(), high, below) {
		if got := impl.RecPrint(r); got != "" {
			t.Errorf("RecPrint of what is not ok is %.200q", got)
		}
	}
}

func TestRecParseReadsEachForm(t *testing.T) {
	wantRecipe(t, brewText, brew())
	for _, p := range kinds() {
		wantRecipe(t, lineOf(p), []impl.RecPhase{p})
	}
}

func TestRecParseSpacesCommentsAndEmptyLines(t *testing.T) {
	lines := linesByForm(brewText)
	for what, text := range map[string]string{
		"no last newline":      strings.TrimSuffix(brewText, "\n"),
		"more newlines":        "\n\n" + strings.Join(lines, "\n\n\n") + "\n\n",
		"more spaces":          strings.ReplaceAll(brewText, " ", "    "),
		"spaces ahead":         "   " + strings.Join(lines, "\n "),
		"spaces behind":        strings.Join(lines, "  \n") + "   ",
		"lines of spaces":      "  \n" + strings.Join(lines, "\n \n") + "\n   \n ",
		"comments behind":      strings.Join(lines, " # x\n") + "#",
		"comments at the word": strings.Join(lines, "#x # y\n") + "#",
		"lines of comments":    "# x\n" + strings.Join(lines, "\n  # x y z\n") + "\n#",
		"any bytes behind a #": strings.Join(lines, "#\x00\t\r\xff\x7fä\n") + "#" + strings.Repeat("w", 100),
		"phases in comments":   "#" + strings.Join(lines, "\n#") + "\n" + brewText,
	} {
		t.Run(what, func(t *testing.T) {
			wantRecipe(t, text, brew())
		})
	}
}

// The words of the forms are fixed by their places alone, so names may be called like them.
func TestRecParseNamesCalledLikeWords(t *testing.T) {
	wantRecipe(t, "within fill then else 1 within 2 then test else test\ntest test test within 3 then good else good", []impl.RecPhase{
		{Name: "within", Kind: impl.RecFill, A: "then", B: "else", N: 1, Within: 2, Then: "test", Else: "test"},
		{Name: "test", Kind: impl.RecTest, A: "test", Within: 3, Then: "good", Else: "good"},
	})
	wantRecipe(t, "7 hold 8 9 within 10 then good else good", []impl.RecPhase{
		{Name: "7", Kind: impl.RecHold, A: "8", N: 9, Within: 10, Then: "good", Else: "good"},
	})
	wantRecipe(t, "a move good saved 9 within 10 then good else good", []impl.RecPhase{
		{Name: "a", Kind: impl.RecMove, A: "good", B: "saved", N: 9, Within: 10, Then: "good", Else: "good"},
	})
}

// Promise 7: RecParse of RecPrint is the recipe, also when the text is written more loosely.
func TestPromise7ReadIsWhatWasPrinted(t *testing.T) {
	d := &dice{state: 8}
	seen := [6]int{}
	for range 5000 {
		r := d.okRecipe()
		text := impl.RecPrint(r)
		if text != textOf(r) {
			t.Fatalf("RecPrint is %q, should be %q", text, textOf(r))
		}
		wantRecipe(t, text, r)
		loose := d.loosely(text)
		if len(loose) <= 4000 && len(linesByForm(loose)) <= 60 {
			wantRecipe(t, loose, r)
		}
		for _, p := range r {
			seen[p.Kind]++
		}
		if t.Failed() {
			return
		}
	}
	for kind, n := range seen[1:] {
		if n < 1000 {
			t.Errorf("only %d phases of kind %d", n, kind+1)
		}
	}
}

// Promise 7 at the limits: the longest names and the greatest numbers still fit into a text.
func TestPromise7LongestRecipe(t *testing.T) {
	r := chain(12)
	for i := range r {
		r[i] = impl.RecPhase{Name: "phase-" + fmt.Sprint(10+i), Kind: impl.RecMove, A: "12345678", B: "--------", N: 1000, Within: 1000, Then: "phase-" + fmt.Sprint(11+i), Else: "scrapped"}
	}
	r[11].Then = "scrapped"
	wantOk(t, "the longest", impl.RecOk(r), true)
	wantRecipe(t, impl.RecPrint(r), r)
}

// Promise 7: what RecParse reads without a fault is ok; and it reads what the document says.
func TestPromise7WhatIsReadIsOk(t *testing.T) {
	d := &dice{state: 9}
	seen := [8]int{}
	for range 20000 {
		text := d.loosely(textOf(d.anyRecipe()))
		for range d.below(4) {
			text = d.spoilText(text)
		}
		want, fault := readByForm(text)
		seen[fault.Code]++
		r, told := impl.RecParse(text)
		if told != fault || !slices.Equal(r, want) {
			t.Fatalf("RecParse(%q) is %v and %v, should be %v and %v", text, r, told, want, fault)
		}
		if impl.RecOk(r) != (told == impl.RecFault{}) || recipeOkByForm(r) != (told.Code == 0) {
			t.Fatalf("RecParse(%q) is %v and %v: is it ok or not?", text, r, told)
		}
	}
	for code, n := range seen {
		if n < 50 {
			t.Errorf("only %d texts of code %d", n, code)
		}
	}
}

// anyBytes makes a text of any bytes, or of those that come close to a recipe.
func (d *dice) anyBytes() string {
	parts := []string{" ", "\n", "#", "within", "then", "else", "fill", "test", "a", "good", "1", "0", "\t", "\xff"}
	text := ""
	plain := d.below(2) == 0
	for range d.below(60) {
		if plain {
			text += pick(d, parts)
		} else {
			text += string([]byte{byte(d.below(256))})
		}
	}
	return text
}

func TestRecParseOfAnyBytes(t *testing.T) {
	d := &dice{state: 10}
	for range 20000 {
		text := d.anyBytes()
		want, fault := readByForm(text)
		if r, told := impl.RecParse(text); told != fault || !slices.Equal(r, want) {
			t.Fatalf("RecParse(%q) is %v and %v, should be %v and %v", text, r, told, want, fault)
		}
	}
}

// RecPrint answers at every recipe, the same when asked again, and writes into none.
func TestRecPrintAnswersAtEveryArgument(t *testing.T) {
	d := &dice{state: 11}
	for range 20000 {
		r := guarded(d.anyRecipe())
		kept := slices.Clone(r[:cap(r)])
		want := ""
		if recipeOkByForm(r) {
			want = textOf(r)
		}
		for range 2 {
			if got := impl.RecPrint(r); got != want {
				t.Fatalf("RecPrint(%v) is %q, should be %q", r, got, want)
			}
		}
		if !slices.Equal(r[:cap(r)], kept) {
			t.Fatalf("an argument was written into: %v, was %v", r[:cap(r)], kept)
		}
	}
}

func TestRecParseIsNewMemory(t *testing.T) {
	first, _ := impl.RecParse(brewText)
	second, _ := impl.RecParse(brewText)
	first = first[:cap(first)]
	for i := range first {
		first[i] = impl.RecPhase{Name: "scribble"}
	}
	if !slices.Equal(second, brew()) {
		t.Errorf("two answers share memory: %v", second)
	}
	wantRecipe(t, brewText, brew())
}

// within says whether the bytes of a part are bytes of the whole, the very same memory.
func within(part, whole string) bool {
	at := uintptr(unsafe.Pointer(unsafe.StringData(part)))
	from := uintptr(unsafe.Pointer(unsafe.StringData(whole)))
	return at >= from && at < from+uintptr(len(whole))
}

func TestRecParseSharesNothingWithTheText(t *testing.T) {
	text := strings.Clone(brewText)
	r, _ := impl.RecParse(text)
	for _, p := range r {
		for _, part := range []string{p.Name, p.A, p.B, p.Then, p.Else} {
			if part != "" && within(part, text) {
				t.Errorf("%q is cut from the text itself", part)
			}
		}
	}
}

// What a text is read into does not hang on what was read before.
func TestRecParseKeepsNothing(t *testing.T) {
	bad := brewText + "fill test s1 within 1 then good else good\n"
	for range 3 {
		wantRecipe(t, brewText, brew())
		wantFault(t, bad, 6, impl.RecAgain)
		wantFault(t, "", 0, impl.RecNothing)
	}
}

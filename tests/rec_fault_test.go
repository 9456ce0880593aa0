package tests

import (
	"fmt"
	"strings"
	"testing"

	"loop.example/maltrun/impl"
)

// One line of each sort: fine is without a fault, the others have the one they are called by.
const (
	fine     = "f test s1 within 4 then good else good"
	badWord  = "x test s1\t within 4 then good else good"
	badLine  = "x test within 4 then good else good"
	goesBack = "x test s1 within 4 then f else good"
	goesAway = "x test s1 within 4 then good else none"
)

// twelve is a text of as many phases as there may be, called p0 to p11.
func twelve() string {
	text := ""
	for i := range 12 {
		text += fmt.Sprintf("p%d test s1 within 4 then good else good\n", i)
	}
	return text
}

func TestRecFaultNothing(t *testing.T) {
	for _, text := range []string{"", "\n", "\n\n\n", " ", "   \n ", "#", "# x\n\n", "#" + fine, strings.Repeat("\n", 60), strings.Repeat("#", 4000)} {
		wantFault(t, text, 0, impl.RecNothing)
	}
}

func TestRecFaultBadWordOfEachByte(t *testing.T) {
	for c := range 256 {
		code := impl.RecBadLine
		switch {
		case c == '\n' || c == ' ' || c == '#':
			continue
		case c < 33 || c > 126:
			code = impl.RecBadWord
		}
		b := string([]byte{byte(c)})
		wantFault(t, fine+"\n"+b, 2, code)
		wantFault(t, fine+"\nx"+b+"\n", 2, code)
		wantFault(t, fine+"\n  "+b+"  # x\n", 2, code)
		wantFault(t, fine+"\n"+goesAway+" "+b, 2, code)
		wantFault(t, fine+"\nx test s1 within 4 then"+b+"good else good", 2, code)
	}
}

func TestRecFaultBadWordBytesThatAreNoSpaces(t *testing.T) {
	for _, space := range []string{"\t", "\r", "\v", "\f", "\u00a0", "\u2028", "\x85", "\x00"} {
		wantFault(t, strings.ReplaceAll(fine, " ", space), 1, impl.RecBadWord)
		wantFault(t, fine+space, 1, impl.RecBadWord)
		wantFault(t, space+fine, 1, impl.RecBadWord)
		wantFault(t, space, 1, impl.RecBadWord)
		wantFault(t, fine+"#"+space, 0, 0)
	}
	wantFault(t, strings.ReplaceAll(brewText, "\n", "\r\n"), 1, impl.RecBadWord)
	wantFault(t, strings.ReplaceAll(brewText, "\n", "#\r\n"), 0, 0)
}

func TestRecFaultLongWords(t *testing.T) {
	most := strings.Repeat("a", 24)
	for _, place := range []string{"%s", "%s test s1 within 4 then good else good", "x test s1 within 4 then good else %s", "x test s1 within %s then good else good", fine + " %s"} {
		wantFault(t, fmt.Sprintf(place, most), 1, impl.RecBadLine)
		wantFault(t, fmt.Sprintf(place, most+"a"), 1, impl.RecBadWord)
		wantFault(t, fmt.Sprintf(place, most+"#a"), 1, impl.RecBadLine)
		wantFault(t, fmt.Sprintf(place, strings.Repeat("~", 300)), 1, impl.RecBadWord)
	}
	wantFault(t, fine+"#"+most+"a", 0, 0)
	wantFault(t, fine+" # "+most+"a", 0, 0)
	wantFault(t, most+" "+most, 1, impl.RecBadLine)
}

func TestRecFaultBadLine(t *testing.T) {
	for _, line := range []string{
		"x", "x test", "test", "x test s1", "x test s1 within 4", "x test s1 within 4 then good", "x test s1 within 4 then good else", "within 4 then good else good",
		"x within 4 then good else good", "test s1 within 4 then good else good",
		"x test within 4 then good else good", "x test s1 s2 within 4 then good else good", "x test s1 5 within 4 then good else good",
		"x clean within 4 then good else good", "x clean s1 s2 within 4 then good else good", "x clean s1 5 within 4 then good else good",
		"x hold s1 within 4 then good else good", "x hold 3 within 4 then good else good", "x hold s1 s2 3 within 4 then good else good", "x hold 3 s1 within 4 then good else good",
		"x fill s1 5 within 4 then good else good", "x fill s1 malt within 4 then good else good", "x fill s1 malt rye 5 within 4 then good else good", "x fill s1 5 malt within 4 then good else good",
		"x move s1 5 within 4 then good else good", "x move s1 s2 within 4 then good else good", "x move s1 s2 s3 5 within 4 then good else good", "x move s1 s1 5 within 4 then good else good",
		"x Test s1 within 4 then good else good", "x tests s1 within 4 then good else good", "x tes s1 within 4 then good else good", "x good s1 within 4 then good else good", "x 5 s1 within 4 then good else good",
		"x test s1 Within 4 then good else good", "x test s1 4 within then good else good", "x test s1 within 4 Then good else good", "x test s1 within 4 then good Else good",
		"x test s1 within 4 else good then good", "x test s1 then good within 4 else good", "x test s1 within 4 then good then good", "x test s1 within 4 else good else good", "x test s1 within within then good else good",
		"x test s1 within 4 then good else good good", "x test s1 within 4 then good else good x test s1 within 4 then good else good",
		"good test s1 within 4 then good else good", "saved test s1 within 4 then good else good", "scrapped test s1 within 4 then good else good",
		"X test s1 within 4 then good else good", "123456789 test s1 within 4 then good else good", "x_ test s1 within 4 then good else good", "~ test s1 within 4 then good else good",
		"x test 123456789 within 4 then good else good", "x test S1 within 4 then good else good", "x fill s1 Malt 5 within 4 then good else good", "x fill s1 123456789 5 within 4 then good else good", "x move s1 s_ 5 within 4 then good else good",
		"x test s1 within 4 then Good else good", "x test s1 within 4 then good else 123456789", "x test s1 within 4 then good, else good", "x test s1 within 4 then good else good.",
	} {
		wantFault(t, line, 1, impl.RecBadLine)
		wantFault(t, fine+"\n\n  "+line+"  # x\n"+badWord, 3, impl.RecBadLine)
	}
}

func TestRecFaultNumbers(t *testing.T) {
	fits := map[string]bool{"1": true, "9": true, "10": true, "100": true, "999": true, "1000": true, "0": false, "00": false, "01": false, "010": false, "0001": false, "0010": false, "00001": false, "0999": false, "01000": false, "1001": false, "9999": false, "10000": false, "1000000": false,
		"-1": false, "+1": false, "--1": false, "1-": false, "1.0": false, "1,0": false, "0x1": false, "1e1": false, "1_0": false, "a": false, "1a": false, "a1": false, "-": false, "/": false, ":": false, "1:": false, "1/": false,
		"4294967297": false, "18446744073709551617": false, "000000000000000000000001": false, "999999999999999999999999": false}
	for number, ok := range fits {
		line, code := 0, 0
		if !ok {
			line, code = 1, impl.RecBadLine
		}
		for _, form := range []string{"x fill s1 malt %s within 4 then good else good", "x move s1 s2 %s within 4 then good else good", "x hold s1 %s within 1000 then good else good", "x fill s1 malt 5 within %s then good else good", "x move s1 s2 5 within %s then good else good", "x hold s1 1 within %s then good else good", "x clean s1 within %s then good else good", "x test s1 within %s then good else good"} {
			wantFault(t, fmt.Sprintf(form, number), line, code)
		}
	}
}

// Each N and WITHIN is read as what it says, not only accepted.
func TestRecParseReadsEachNumber(t *testing.T) {
	for n := 1; n <= 1000; n++ {
		p := impl.RecPhase{Name: "x", Kind: impl.RecFill, A: "s1", B: "malt", N: n, Within: 1001 - n, Then: "good", Else: "good"}
		wantRecipe(t, fmt.Sprintf("x fill s1 malt %d within %d then good else good", n, 1001-n), []impl.RecPhase{p})
		if got, want := impl.RecPrint([]impl.RecPhase{p}), lineOf(p)+"\n"; got != want {
			t.Errorf("RecPrint is %q, should be %q", got, want)
		}
	}
}

func TestRecFaultHoldsNoLongerThanWithin(t *testing.T) {
	for _, within := range []int{1, 2, 9, 10, 999, 1000} {
		form := "h hold s1 %d within %d then good else good"
		wantFault(t, fmt.Sprintf(form, within, within), 0, 0)
		wantFault(t, fmt.Sprintf(form, within+1, within), 1, impl.RecBadLine)
		wantFault(t, fmt.Sprintf("x fill s1 malt %d within %d then good else good", 1000, within), 0, 0)
	}
}

func TestRecFaultAgain(t *testing.T) {
	lines := strings.SplitAfter(twelve(), "\n")
	for i := range 12 {
		for j := range i {
			text := strings.Join(lines[:i], "") + "# x\n" + lines[j] + strings.Join(lines[i:], "")
			wantFault(t, text, i+2, impl.RecAgain)
		}
	}
	wantFault(t, fine+"\nf clean other within 9 then saved else good", 2, impl.RecAgain)
	wantFault(t, fine+"\nf2 clean s1 within 9 then saved else good", 0, 0)
}

func TestRecFaultNoSuch(t *testing.T) {
	for _, on := range []string{"none", "f", "x", "s1", "z9", "goo", "goods", "test", "-"} {
		for _, form := range []string{"x test s1 within 4 then %s else good", "x test s1 within 4 then good else %s", "x test s1 within 4 then %[1]s else %[1]s", "x test s1 within 4 then last else %s", "x test s1 within 4 then %s else last"} {
			text := fine + "\n# x\n\n" + fmt.Sprintf(form, on) + "\nlast clean s2 within 4 then good else saved\n"
			wantFault(t, text, 4, impl.RecNoSuch)
		}
	}
	wantFault(t, "a test s1 within 4 then b else c\nb test s1 within 4 then c else c\nc test s1 within 4 then saved else scrapped", 0, 0)
	wantFault(t, "a test s1 within 4 then b else c\nb test s1 within 4 then c else b\nc test s1 within 4 then a else scrapped", 2, impl.RecNoSuch)
	wantFault(t, "a test s1 within 4 then b else c\nb test s1 within 4 then c else c\nc test s1 within 4 then saved else a", 3, impl.RecNoSuch)
}

func TestRecFaultTooMany(t *testing.T) {
	wantFault(t, twelve(), 0, 0)
	wantFault(t, twelve()+"# "+fine+"\n\n  ", 0, 0)
	wantFault(t, twelve()+fine, 13, impl.RecTooMany)
	wantFault(t, twelve()+"\n# x\n"+fine+"\n"+fine, 15, impl.RecTooMany)
	wantFault(t, fine+"\n"+twelve(), 13, impl.RecTooMany)
}

// One line with several faults: the first code counts.
func TestRecFaultOfALineIsTheFirstCode(t *testing.T) {
	wantFault(t, "x\tbad", 1, impl.RecBadWord)
	wantFault(t, fine+"\nf test\t", 2, impl.RecBadWord)
	wantFault(t, fine+"\n"+fine+"\xff", 2, impl.RecBadWord)
	wantFault(t, fine+"\nf test s1 within 0 then good else good", 2, impl.RecBadLine)
	wantFault(t, fine+"\nx test s1 within 0 then none else good", 2, impl.RecBadLine)
	wantFault(t, fine+"\nf test s1 within 4 then none else f", 2, impl.RecAgain)
	wantFault(t, twelve()+"x\x01", 13, impl.RecBadWord)
	wantFault(t, twelve()+badWord, 13, impl.RecBadWord)
	wantFault(t, twelve()+badLine, 13, impl.RecBadLine)
	wantFault(t, twelve()+"p3 test s1", 13, impl.RecBadLine)
	wantFault(t, twelve()+"p3 test s1 within 4 then good else good", 13, impl.RecAgain)
	wantFault(t, twelve()+"p3 test s1 within 4 then none else good", 13, impl.RecAgain)
	wantFault(t, twelve()+goesAway, 13, impl.RecTooMany)
}

// Several lines with faults: the first line counts, but those of code 4 come behind all others.
func TestRecFaultOfATextIsTheFirstLine(t *testing.T) {
	again := fine
	for i, one := range []string{badWord, badLine, again} {
		for _, other := range []string{badWord, badLine, again} {
			wantFault(t, fine+"\n"+one+"\n"+other+"\n", 2, i+1)
			wantFault(t, fine+"\n#\n"+goesAway+"\n"+one+"\n"+goesBack+"\n"+other+"\n", 4, i+1)
		}
		wantFault(t, goesBack+"\n"+fine+"\n"+one, 3, i+1)
	}
	wantFault(t, fine+"\n"+goesAway+"\ny test s1 within 4 then x else good", 2, impl.RecNoSuch)
	wantFault(t, fine+"\ny test s1 within 4 then x else y\n"+goesAway, 2, impl.RecNoSuch)
	wantFault(t, strings.Replace(twelve(), "good", "none", 1)+fine, 13, impl.RecTooMany)
	wantFault(t, strings.Replace(twelve(), "good", "none", 1), 1, impl.RecNoSuch)
	wantFault(t, twelve()+fine+"\n"+badWord, 13, impl.RecTooMany)
	wantFault(t, twelve()+badLine+"\n"+fine, 13, impl.RecBadLine)
	wantFault(t, "#\n\n"+badWord, 3, impl.RecBadWord)
}

// Lines that say nothing are counted, too.
func TestRecFaultLineIsCountedInTheText(t *testing.T) {
	for n := range 59 {
		ahead := strings.Repeat("\n", n)
		wantFault(t, ahead+badLine, n+1, impl.RecBadLine)
		wantFault(t, ahead+goesAway+"\n", n+1, impl.RecNoSuch)
		wantFault(t, ahead+badWord+"\n"+badLine, n+1, impl.RecBadWord)
	}
}

func TestRecFaultTooManyBytes(t *testing.T) {
	for _, text := range []string{"", fine, fine + "\n", badWord, badLine + "\n", goesAway, twelve() + fine, "\xff"} {
		for _, fill := range []string{"#", " ", "\xff"} {
			head := text + "\n#"
			if fill == " " {
				head = text + "\n"
			}
			_, want := readByForm(text)
			most := head + strings.Repeat(fill, 4000-len(head))
			wantFault(t, most, want.Line, want.Code)
			wantFault(t, most+fill, 0, impl.RecTooLong)
			wantFault(t, most[:3999]+"\n", want.Line, want.Code)
			wantFault(t, most+"\n", 0, impl.RecTooLong)
		}
	}
	wantFault(t, strings.Repeat("a", 4000), 1, impl.RecBadWord)
	wantFault(t, strings.Repeat("a", 4001), 0, impl.RecTooLong)
	wantFault(t, strings.Repeat("\n", 4001), 0, impl.RecTooLong)
	wantFault(t, strings.Repeat("\xff", 1000000), 0, impl.RecTooLong)
}

func TestRecFaultTooManyLines(t *testing.T) {
	for _, text := range []string{fine, badWord, badLine, goesAway, twelve() + fine, "", "# x"} {
		lines := strings.Count(text, "\n") + 1
		_, want := readByForm(text)
		for _, idle := range []string{"\n", "#\n", " \n"} {
			most := text + "\n" + strings.Repeat(idle, 60-lines)
			wantFault(t, most, want.Line, want.Code)
			wantFault(t, strings.TrimSuffix(most, "\n"), want.Line, want.Code)
			wantFault(t, most+"\n", 0, impl.RecTooLong)
			wantFault(t, most+" ", 0, impl.RecTooLong)
			wantFault(t, most+"#", 0, impl.RecTooLong)
			wantFault(t, most+badWord, 0, impl.RecTooLong)
		}
	}
	wantFault(t, strings.Repeat("\n", 60), 0, impl.RecNothing)
	wantFault(t, strings.Repeat("\n", 61), 0, impl.RecTooLong)
	wantFault(t, strings.Repeat("\n", 59)+fine, 0, 0)
	wantFault(t, strings.Repeat("\n", 59)+badLine+"\n", 60, impl.RecBadLine)
	wantFault(t, strings.Repeat("\n", 60)+fine, 0, impl.RecTooLong)
}

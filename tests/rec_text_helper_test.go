package tests

import (
	"fmt"
	"regexp"
	"slices"
	"strconv"
	"strings"
	"testing"

	"loop.example/maltrun/impl"
)

// kindWords has the words of the forms by their Kind.
var kindWords = [6]string{"", "fill", "move", "hold", "clean", "test"}

// lineForms has the forms, with one space between words, by their Kind.
var lineForms = [6]*regexp.Regexp{
	nil,
	lineForm("(NAME) fill (NAME) (NAME) (NUMBER) within (NUMBER) then (NAME) else (NAME)"),
	lineForm("(NAME) move (NAME) (NAME) (NUMBER) within (NUMBER) then (NAME) else (NAME)"),
	lineForm("(NAME) hold (NAME)() (NUMBER) within (NUMBER) then (NAME) else (NAME)"),
	lineForm("(NAME) clean (NAME)()() within (NUMBER) then (NAME) else (NAME)"),
	lineForm("(NAME) test (NAME)()() within (NUMBER) then (NAME) else (NAME)"),
}

func lineForm(form string) *regexp.Regexp {
	parts := strings.NewReplacer("NAME", "[a-z0-9-]{1,8}", "NUMBER", "0|[1-9][0-9]{0,3}")
	return regexp.MustCompile("^" + parts.Replace(form) + "$")
}

var (
	comment  = regexp.MustCompile(`(?s)#.*`)
	badByte  = regexp.MustCompile(`[^ -~]`)
	longWord = regexp.MustCompile(`[!-~]{25}`)
	spaces   = regexp.MustCompile(` +`)
)

// linesByForm cuts a text into lines.
func linesByForm(text string) []string {
	lines := strings.SplitAfter(text, "\n")
	if lines[len(lines)-1] == "" {
		lines = lines[:len(lines)-1]
	}
	for i := range lines {
		lines[i] = strings.TrimSuffix(lines[i], "\n")
	}
	return lines
}

// phaseByForm reads a line without its comment and its needless spaces.
func phaseByForm(line string) (impl.RecPhase, bool) {
	for i, form := range lineForms[1:] {
		if m := form.FindStringSubmatch(line); m != nil {
			n, _ := strconv.Atoi(m[4])
			within, _ := strconv.Atoi(m[5])
			p := impl.RecPhase{Name: m[1], Kind: i + 1, A: m[2], B: m[3], N: n, Within: within, Then: m[6], Else: m[7]}
			return p, phaseOkByForm(p)
		}
	}
	return impl.RecPhase{}, false
}

// codeByForm is the code of a line, 4 left out, when these phases are ahead of it, and the phase it says.
func codeByForm(ahead []impl.RecPhase, line string) (impl.RecPhase, int) {
	line = comment.ReplaceAllString(line, "")
	if badByte.MatchString(line) || longWord.MatchString(line) {
		return impl.RecPhase{}, 1
	}
	line = strings.Trim(spaces.ReplaceAllString(line, " "), " ")
	if line == "" {
		return impl.RecPhase{}, 0
	}
	p, ok := phaseByForm(line)
	switch {
	case !ok:
		return p, 2
	case slices.Contains(phaseNames(ahead), p.Name):
		return p, 3
	case len(ahead) == 12:
		return p, 5
	}
	return p, 0
}

// readByForm reads a text by the document's words.
func readByForm(text string) ([]impl.RecPhase, impl.RecFault) {
	lines := linesByForm(text)
	if len(text) > 4000 || len(lines) > 60 {
		return nil, impl.RecFault{Code: 7}
	}
	var r []impl.RecPhase
	var at []int
	for i, line := range lines {
		p, code := codeByForm(r, line)
		if code != 0 {
			return nil, impl.RecFault{Line: i + 1, Code: code}
		}
		if p.Name != "" {
			r, at = append(r, p), append(at, i+1)
		}
	}
	for i, p := range r {
		on := append(phaseNames(r[i+1:]), ends[1:]...)
		if !slices.Contains(on, p.Then) || !slices.Contains(on, p.Else) {
			return nil, impl.RecFault{Line: at[i], Code: 4}
		}
	}
	if len(r) == 0 {
		return nil, impl.RecFault{Code: 6}
	}
	return r, impl.RecFault{}
}

// lineOf is a phase in the form of its Kind, be it ok or not.
func lineOf(p impl.RecPhase) string {
	word := "kind"
	if p.Kind >= 1 && p.Kind <= 5 {
		word = kindWords[p.Kind]
	}
	line := p.Name + " " + word + " " + p.A
	if p.B != "" || p.Kind == impl.RecFill || p.Kind == impl.RecMove {
		line += " " + p.B
	}
	if p.N != 0 || p.Kind == impl.RecFill || p.Kind == impl.RecMove || p.Kind == impl.RecHold {
		line += " " + strconv.Itoa(p.N)
	}
	return line + fmt.Sprintf(" within %d then %s else %s", p.Within, p.Then, p.Else)
}

// textOf is a recipe as a text, a line a phase.
func textOf(r []impl.RecPhase) string {
	text := ""
	for _, p := range r {
		text += lineOf(p) + "\n"
	}
	return text
}

// loosely writes a text's lines with more spaces, comments and lines that say nothing.
func (d *dice) loosely(text string) string {
	idle := []string{"", " ", "      ", "#", "# x", "  # good ## x", "#\x00\xff\t\r", "#" + strings.Repeat("long", 10)}
	behind := []string{"", "", " ", "   ", "#", " # then good", "#\xff\r", "# " + strings.Repeat("y", 30)}
	out := ""
	for _, line := range linesByForm(text) {
		for d.below(4) == 0 {
			out += pick(d, idle) + "\n"
		}
		out += strings.Repeat(" ", d.below(3))
		for _, word := range strings.SplitAfter(line, " ") {
			out += word
			if strings.HasSuffix(word, " ") {
				out += strings.Repeat(" ", max(0, d.below(6)-3))
			}
		}
		out += pick(d, behind) + "\n"
	}
	for d.below(3) == 0 {
		out += pick(d, idle) + "\n"
	}
	if d.below(2) == 0 {
		out = strings.TrimSuffix(out, "\n")
	}
	return out
}

// spoilText changes a byte, a word or a line of a text.
func (d *dice) spoilText(text string) string {
	at := d.below(len(text) + 1)
	head, rest := text[:at], text[at:]
	parts := []string{"\t", "\r", "\n", " ", "#", "0", "1", "-", "a", "A", "~", "\x7f", "\xff", "\x00", " within ", " then", strings.Repeat("w", 12), strings.Repeat("w", 25)}
	lines := strings.SplitAfter(text, "\n")
	one, other := d.below(len(lines)), d.below(len(lines))
	words := strings.SplitAfter(text, " ")
	this, that := d.below(len(words)), d.below(len(words))
	switch d.below(9) {
	case 0:
		return head + pick(d, parts) + rest
	case 1:
		return head + rest[min(1, len(rest)):]
	case 2:
		lines[one], lines[other] = lines[other], lines[one]
		return strings.Join(lines, "")
	case 3:
		return strings.Join(slices.Insert(lines, one, lines[other]), "")
	case 4:
		words[this], words[that] = words[that], words[this]
		return strings.Join(words, "")
	case 5:
		words[this] = pick(d, []string{"0 ", "00 ", "1 ", "01 ", "1000 ", "1001 ", "10000 ", "99999999 ", "-1 ", "+1 ", "fill ", "test ", "hold ", "a ", "good ", "nobody "})
		return strings.Join(words, "")
	case 6:
		return text + strings.Repeat("\n", d.below(70))
	case 7:
		for i := range d.below(9) {
			text += fmt.Sprintf("\nmore-%d test s1 within 4 then good else good", i)
		}
		return text
	}
	return text + "#" + strings.Repeat("#", d.below(5000))
}

// wantFault holds what RecParse tells of a text against a line and a code.
func wantFault(t *testing.T, text string, line, code int) {
	t.Helper()
	r, fault := impl.RecParse(text)
	if fault != (impl.RecFault{Line: line, Code: code}) {
		t.Errorf("RecParse(%.400q) tells line %d code %d, should be line %d code %d", text, fault.Line, fault.Code, line, code)
	}
	if code != 0 && len(r) != 0 {
		t.Errorf("RecParse(%.400q) tells a fault, and yet %v", text, r)
	}
}

// wantRecipe holds what RecParse reads of a text against a recipe.
func wantRecipe(t *testing.T, text string, want []impl.RecPhase) {
	t.Helper()
	r, fault := impl.RecParse(text)
	if fault != (impl.RecFault{}) || !slices.Equal(r, want) {
		t.Errorf("RecParse(%.400q) is %v and %v, should be %v", text, r, fault, want)
	}
}

package impl

import (
	"errors"
	"slices"
	"strconv"
	"strings"
)

// Limits of texts.
const (
	RecMaxText  = 4000
	RecMaxLines = 60
	RecMaxWord  = 24
)

// Faults of texts.
const (
	RecBadWord = 1
	RecBadLine = 2
	RecAgain   = 3
	RecNoSuch  = 4
	RecTooMany = 5
	RecNothing = 6
	RecTooLong = 7
)

// recMaxDigits bounds the digits of a number.
const recMaxDigits = 4

// recTailSize is how many words `within WITHIN then THEN else ELSE` has.
const recTailSize = 6

// recKindWords has the word of each kind's form by its Kind.
var recKindWords = [6]string{RecFill: "fill", RecMove: "move", RecHold: "hold", RecClean: "clean", RecTest: "test"}

// recForm reads what stands between the word of a form and the tail: Kind, A, B
// and N of a phase; false, if these are not the words of the form.
type recForm func(words []string) (RecPhase, bool)

// recForms has each form by its word.
var recForms map[string]recForm

func init() {
	recForms = map[string]recForm{
		recKindWords[RecFill]:  recReadFill,
		recKindWords[RecMove]:  recReadMove,
		recKindWords[RecHold]:  recReadHold,
		recKindWords[RecClean]: recReadClean,
		recKindWords[RecTest]:  recReadTest,
	}
}

// RecFault is what is wrong with a text, and in which line.
type RecFault struct {
	Line int
	Code int
}

// recTextError is a fault on its way out of the reading of a text.
type recTextError struct {
	line int
	code int
}

func (e recTextError) Error() string {
	return "line " + strconv.Itoa(e.line) + ": code " + strconv.Itoa(e.code)
}

// recReading is what has been read of a text so far. The line of each phase is
// kept, as where it goes on to can be judged only when all are read.
type recReading struct {
	phases []RecPhase
	lines  []int
}

// RecParse reads a recipe.
func RecParse(text string) ([]RecPhase, RecFault) {
	r, err := recReadText(text)
	var fault recTextError
	if errors.As(err, &fault) {
		return nil, RecFault{Line: fault.line, Code: fault.code}
	}
	return r, RecFault{}
}

// RecPrint writes a recipe.
func RecPrint(r []RecPhase) string {
	if !RecOk(r) {
		return ""
	}
	var text strings.Builder
	for _, p := range r {
		text.WriteString(strings.Join(recPhaseWords(p), " "))
		text.WriteByte('\n')
	}
	return text.String()
}

// recPhaseWords is the words of a phase that is ok alone: it has a B, and an N
// above 0, just if its form has a word for it.
func recPhaseWords(p RecPhase) []string {
	words := []string{p.Name, recKindWords[p.Kind], p.A}
	if p.B != "" {
		words = append(words, p.B)
	}
	if p.N != 0 {
		words = append(words, strconv.Itoa(p.N))
	}
	return append(words, "within", strconv.Itoa(p.Within), "then", p.Then, "else", p.Else)
}

func recReadText(text string) ([]RecPhase, error) {
	lines, ok := recLines(text)
	if !ok {
		return nil, recTextError{code: RecTooLong}
	}
	var read recReading
	for i, line := range lines {
		if err := read.take(i+1, line); err != nil {
			return nil, err
		}
	}
	if err := read.whole(); err != nil {
		return nil, err
	}
	return read.phases, nil
}

// recLines is the lines of a text; false, if it is too long. They are cut from a
// copy, so that what is read shares no memory with the text.
func recLines(text string) ([]string, bool) {
	if len(text) > RecMaxText {
		return nil, false
	}
	lines := strings.Split(strings.Clone(text), "\n")
	if last := len(lines) - 1; lines[last] == "" {
		lines = lines[:last]
	}
	return lines, len(lines) <= RecMaxLines
}

// take reads one more line. The checks stand in the order of the codes.
func (t *recReading) take(line int, text string) error {
	words, ok := recWords(text)
	if !ok {
		return recTextError{line: line, code: RecBadWord}
	}
	if len(words) == 0 {
		return nil
	}
	p, ok := recReadPhase(words)
	if !ok {
		return recTextError{line: line, code: RecBadLine}
	}
	if recHasPhase(t.phases, p.Name) {
		return recTextError{line: line, code: RecAgain}
	}
	if len(t.phases) == RecMaxPhases {
		return recTextError{line: line, code: RecTooMany}
	}
	t.phases = append(t.phases, p)
	t.lines = append(t.lines, line)
	return nil
}

// whole says what is wrong with a text none of whose lines has a fault by itself.
func (t *recReading) whole() error {
	for i, p := range t.phases {
		later := t.phases[i+1:]
		if !recGoesOn(later, p.Then) || !recGoesOn(later, p.Else) {
			return recTextError{line: t.lines[i], code: RecNoSuch}
		}
	}
	if len(t.phases) == 0 {
		return recTextError{code: RecNothing}
	}
	return nil
}

// recWords is the words of a line; false, if a byte or a word is bad.
func recWords(line string) ([]string, bool) {
	said, _, _ := strings.Cut(line, "#")
	for i := range len(said) {
		if said[i] < ' ' || said[i] > '~' {
			return nil, false
		}
	}
	words := strings.Fields(said)
	return words, !slices.ContainsFunc(words, recWordTooLong)
}

func recWordTooLong(word string) bool {
	return len(word) > RecMaxWord
}

// recReadPhase reads the words of a line; false, if they are of none of the
// forms, or the phase is not ok alone.
func recReadPhase(words []string) (RecPhase, bool) {
	tail := len(words) - recTailSize
	if tail < 2 {
		return RecPhase{}, false
	}
	form, ok := recForms[words[1]]
	if !ok {
		return RecPhase{}, false
	}
	p, ok := form(words[2:tail])
	if !ok || !recTailOk(words[tail:]) {
		return RecPhase{}, false
	}
	p.Name = words[0]
	p.Within, ok = recNumber(words[tail+1])
	p.Then = words[tail+3]
	p.Else = words[tail+5]
	return p, ok && RecPhaseOk(p)
}

// recTailOk says whether the fixed words of a tail are where they belong.
func recTailOk(tail []string) bool {
	return tail[0] == "within" && tail[2] == "then" && tail[4] == "else"
}

func recReadFill(words []string) (RecPhase, bool) {
	return recReadPair(RecFill, words)
}

func recReadMove(words []string) (RecPhase, bool) {
	return recReadPair(RecMove, words)
}

func recReadHold(words []string) (RecPhase, bool) {
	if len(words) != 2 {
		return RecPhase{}, false
	}
	n, ok := recNumber(words[1])
	return RecPhase{Kind: RecHold, A: words[0], N: n}, ok
}

func recReadClean(words []string) (RecPhase, bool) {
	return recReadSlot(RecClean, words)
}

func recReadTest(words []string) (RecPhase, bool) {
	return recReadSlot(RecTest, words)
}

// recReadPair reads an A, a B and an N.
func recReadPair(kind int, words []string) (RecPhase, bool) {
	if len(words) != 3 {
		return RecPhase{}, false
	}
	n, ok := recNumber(words[2])
	return RecPhase{Kind: kind, A: words[0], B: words[1], N: n}, ok
}

// recReadSlot reads an A alone.
func recReadSlot(kind int, words []string) (RecPhase, bool) {
	if len(words) != 1 {
		return RecPhase{}, false
	}
	return RecPhase{Kind: kind, A: words[0]}, true
}

// recNumber reads decimals of few digits without needless zeros.
func recNumber(word string) (int, bool) {
	if len(word) < 1 || len(word) > recMaxDigits || len(word) > 1 && word[0] == '0' {
		return 0, false
	}
	n := 0
	for _, c := range word {
		if c < '0' || c > '9' {
			return 0, false
		}
		n = 10*n + int(c-'0')
	}
	return n, true
}

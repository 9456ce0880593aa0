package tests

import (
	"fmt"
	"slices"
	"strings"
	"testing"

	"loop.example/maltrun/impl"
)

// The four of chapter 13.
const (
	enter = "ShareEnter"
	ask   = "ShareAsk"
	less  = "ShareLess"
	leave = "ShareLeave"
)

var theFour = [4]string{enter, ask, less, leave}

// call is a call of one of the four: its needs or its things are the list.
type call struct {
	what string
	name string
	list []string
}

func (c call) String() string {
	return fmt.Sprintf("%s of %.20q with %.100q", c.what, c.name, c.list)
}

// do is what the program answers.
func (c call) do(b impl.ShareBook) (impl.ShareBook, int) {
	switch c.what {
	case enter:
		return impl.ShareEnter(b, c.name, c.list)
	case ask:
		return impl.ShareAsk(b, c.name, c.list)
	case less:
		return impl.ShareLess(b, c.name, c.list)
	default:
		return impl.ShareLeave(b, c.name)
	}
}

// byForm is what the document's words say.
func (c call) byForm(b impl.ShareBook) (impl.ShareBook, int) {
	codes := c.codesByForm(b)
	switch {
	case len(codes) == 0:
		return c.afterByForm(b), 0
	case codes[0] == 1:
		return impl.ShareBook{}, 1
	default:
		return b, codes[0]
	}
}

// codesByForm is all the codes that would do, in the order of the document's list, each looked at by itself.
func (c call) codesByForm(b impl.ShareBook) []int {
	var codes []int
	would := func(code int, says bool) {
		if says {
			codes = append(codes, code)
		}
	}
	there := slices.Contains(batchNames(b), c.name)
	would(1, !bookOkByForm(b))
	if c.what != enter {
		would(3, !there)
	}
	switch c.what {
	case enter:
		would(2, !nameForm.MatchString(c.name) || !ofByForm(c.list, b.Things))
		would(3, there)
		would(4, len(b.Batches) >= 5)
	case ask:
		would(2, !ofByForm(c.list, needsOf(b, c.name)))
		would(5, len(hadByOthers(b, c.name, c.list)) > 0)
		would(6, safeByForm(b) && there && !safeByForm(c.afterByForm(b)))
	case less:
		would(2, !ofByForm(c.list, needsOf(b, c.name)))
	}
	return codes
}

// afterByForm is the book that would be, whether it may be or not.
func (c call) afterByForm(b impl.ShareBook) impl.ShareBook {
	after := impl.ShareBook{Things: b.Things}
	if c.what == enter {
		after.Batches = append(after.Batches, batch(c.name, nil, c.list))
	}
	for _, one := range b.Batches {
		switch {
		case c.what == leave && one.Name == c.name:
			continue
		case c.what == ask && one.Name == c.name:
			one.Has = sorted(slices.Concat(one.Has, c.list))
		case c.what == less && one.Name == c.name:
			one.Needs = c.list
			one.Has = both(one.Has, c.list)
		}
		after.Batches = append(after.Batches, one)
	}
	slices.SortFunc(after.Batches, func(one, other impl.ShareBatch) int { return strings.Compare(one.Name, other.Name) })
	return after
}

// both is what is in both lists.
func both(list, other []string) []string {
	return slices.DeleteFunc(slices.Clone(list), func(text string) bool { return !slices.Contains(other, text) })
}

// needsOf is the Needs of the first batch of a name.
func needsOf(b impl.ShareBook, name string) []string {
	for _, one := range b.Batches {
		if one.Name == name {
			return one.Needs
		}
	}
	return nil
}

// hasOf is what the first batch of a name has.
func hasOf(b impl.ShareBook, name string) []string {
	for _, one := range b.Batches {
		if one.Name == name {
			return one.Has
		}
	}
	return nil
}

// hadByOthers is what of a list batches of other names have.
func hadByOthers(b impl.ShareBook, name string, list []string) []string {
	var had []string
	for _, one := range b.Batches {
		if one.Name != name {
			had = append(had, both(one.Has, list)...)
		}
	}
	return had
}

// safeByForm says whether some order of all fits.
func safeByForm(b impl.ShareBook) bool {
	_, ok := orderByForm(b)
	return ok
}

// wantAnswer holds what a call answers against a book and a code.
func wantAnswer(t *testing.T, b impl.ShareBook, c call, want impl.ShareBook, code int) {
	t.Helper()
	after, got := c.do(b)
	if got != code {
		t.Errorf("%.300q: %v: the code is %d, should be %d", b, c, got, code)
	}
	if told, should := fmt.Sprintf("%q", after), fmt.Sprintf("%q", want); told != should {
		t.Errorf("%.300q: %v: the book is %.300s, should be %.300s", b, c, told, should)
	}
}

// wantRefused: a call has a code, with which the book stays as it is; with 1 it is nothing.
func wantRefused(t *testing.T, b impl.ShareBook, c call, code int) {
	t.Helper()
	if code == 1 {
		wantAnswer(t, b, c, impl.ShareBook{}, code)
	} else {
		wantAnswer(t, b, c, b, code)
	}
}

// wantBatches: a call has no code, and leaves the things, and these batches.
func wantBatches(t *testing.T, b impl.ShareBook, c call, batches ...impl.ShareBatch) {
	t.Helper()
	wantAnswer(t, b, c, impl.ShareBook{Things: b.Things, Batches: batches}, 0)
}

// wantAsSaid holds what a call answers against the document's words, and hands it on.
func wantAsSaid(t *testing.T, b impl.ShareBook, c call) (impl.ShareBook, int) {
	t.Helper()
	want, code := c.byForm(b)
	wantAnswer(t, b, c, want, code)
	if t.Failed() {
		t.FailNow()
	}
	return c.do(b)
}

// everyPart is each part of a list, in its order.
func everyPart(list []string) [][]string {
	parts := [][]string{nil}
	for _, text := range list {
		for _, part := range parts[:len(parts):len(parts)] {
			parts = append(parts, append(slices.Clone(part), text))
		}
	}
	return parts
}

// everyCall is each call with the name of a batch, or one of none, and any part of the things.
func everyCall(b impl.ShareBook) []call {
	var all []call
	for _, name := range append(batchNames(b), "new") {
		for _, list := range everyPart(b.Things) {
			for _, what := range theFour {
				all = append(all, call{what, name, list})
			}
		}
	}
	return all
}

// tightBook makes a book that is safe, of so many things and batches, where one of them has some of what nearly all need.
func (d *dice) tightBook(things, batches int) impl.ShareBook {
	b := impl.ShareBook{Things: d.namesUpTo(things)}
	for _, name := range d.namesUpTo(batches) {
		b.Batches = append(b.Batches, batch(name, nil, d.someOf(b.Things, 8)))
	}
	if batches > 0 {
		one := &b.Batches[d.below(batches)]
		one.Has = d.someOf(one.Needs, 4)
	}
	return b
}

// anyCall makes a call that may well be refused.
func (d *dice) anyCall(b impl.ShareBook) call {
	c := d.likelyCall(b)
	if d.below(4) == 0 {
		c.name = pick(d, append(batchNames(b), oddTexts...))
	}
	for range d.below(3) {
		c.list = d.spoilList(c.list)
	}
	return c
}

// likelyCall makes a call of somebody who is there, or of somebody new who comes in, with things as they should be.
func (d *dice) likelyCall(b impl.ShareBook) call {
	names := batchNames(b)
	if len(names) == 0 || d.below(4) == 0 {
		return call{enter, pick(d, d.namesUpTo(1+d.below(16))), d.someOf(b.Things, 1+d.below(10))}
	}
	name := pick(d, names)
	c := call{pick(d, []string{ask, ask, ask, ask, ask, less, less, leave}), name, d.someOf(needsOf(b, name), 2+d.below(9))}
	if had := hadByOthers(b, name, c.list); c.what == ask && d.below(2) == 0 {
		c.list = slices.DeleteFunc(c.list, func(thing string) bool { return slices.Contains(had, thing) })
	}
	return c
}

// walk makes a book that the four lead to, by so many calls, from one with so many things alone; each call is told of, with
// the book ahead of it.
func (d *dice) walk(things, calls int, each func(b impl.ShareBook, c call)) impl.ShareBook {
	b := impl.ShareBook{Things: d.namesUpTo(things)}
	for range calls {
		c := d.likelyCall(b)
		if d.below(8) == 0 {
			c = d.anyCall(b)
		}
		if each != nil {
			each(b, c)
		}
		b, _ = c.do(b)
	}
	return b
}

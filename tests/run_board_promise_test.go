package tests

import (
	"fmt"
	"slices"
	"strings"
	"testing"

	"loop.example/maltrun/impl"
)

// boardLines is the words of each line of a board, each of which is ended by a newline.
func boardLines(t *testing.T, board string) [][]string {
	t.Helper()
	pieces := strings.Split(board, "\n")
	last := len(pieces) - 1
	if pieces[last] != "" {
		t.Fatalf("%q does not end with a newline", board)
	}
	var lines [][]string
	for _, piece := range pieces[:last] {
		lines = append(lines, strings.Split(piece, " "))
	}
	return lines
}

// seen counts which sorts of lines boards had.
type seen map[string]int

// wantBatchLine: a line tells of a batch: where it is, whether it waits, which RunGoes does not tell of, and what it has.
func (s seen) wantBatchLine(t *testing.T, h impl.RunHouse, b impl.RunBatch, line []string) {
	t.Helper()
	stand := texts("waits")
	if slices.Contains(impl.RunGoes(h), b.Name) {
		stand = texts("for", fmt.Sprint(b.Since))
		s["since "+fmt.Sprint(min(b.Since, 2))]++
	}
	has := hasOf(h.Share, b.Name)
	for _, thing := range has {
		if impl.ShareWho(h.Share, thing) != b.Name {
			t.Fatalf("%s has not %s in %s", b.Name, thing, short(h))
		}
	}
	if !slices.Equal(line, slices.Concat(texts(b.Name, b.At), stand, has)) {
		t.Fatalf("%q is told of %s, which has %q, in %s", line, short(b), has, short(h))
	}
	s[fmt.Sprint(stand[0], " with ", min(len(has), 2))]++
}

// wantBoardPromised: promise 21, read from the board's lines.
func (s seen) wantBoardPromised(t *testing.T, h impl.RunHouse) {
	t.Helper()
	lines := boardLines(t, wantBoardAsSaid(t, h))
	batches, dones := len(h.Batches), len(h.Dones)
	if len(lines) != 1+batches+dones {
		t.Fatalf("%d lines are told of %d batches and %d that ended, in %s", len(lines), batches, dones, short(h))
	}
	if !slices.Equal(lines[0], texts("now", fmt.Sprint(h.Now), "left", fmt.Sprint(impl.RunLeft(h)))) {
		t.Fatalf("%q is told of the tick, with %d left, in %s", lines[0], impl.RunLeft(h), short(h))
	}
	for i, line := range lines[1 : 1+batches] {
		s.wantBatchLine(t, h, h.Batches[i], line)
	}
	for i, line := range lines[1+batches:] {
		done := h.Dones[i]
		if len(line) != 4 || impl.RecEnd(line[1]) != done.End || !slices.Equal(line, texts(done.Name, line[1], "at", fmt.Sprint(done.Tick))) {
			t.Fatalf("%q is told of %v, in %s", line, done, short(h))
		}
		s[line[1]]++
	}
	s[fmt.Sprint(batches, " batches")]++
	s[fmt.Sprint(min(dones, 20)/10*10, " dones")]++
	s[fmt.Sprint("batches ", batches > 0, ", dones ", dones > 0)]++
}

// wantAll: each of these sorts has been seen so often at least.
func (s seen) wantAll(t *testing.T, least int, sorts ...string) {
	t.Helper()
	for _, sort := range sorts {
		if s[sort] < least {
			t.Errorf("%s only %d times", sort, s[sort])
		}
	}
}

// Promise 21 in each house of rows of events, of up to five batches, six things and 40 events.
func TestPromise21AlongRows(t *testing.T) {
	d := &dice{state: 71}
	s := seen{}
	for range 400 {
		last := d.lead(1+d.below(6), 40, func(h impl.RunHouse, e event) { s.wantBoardPromised(t, h) })
		s.wantBoardPromised(t, last)
	}
	s.wantAll(t, 100, "waits with 0", "waits with 1", "for with 1", "for with 2", "since 0", "since 1", "since 2", "good", "saved", "scrapped",
		"0 batches", "1 batches", "2 batches", "3 batches", "4 batches", "5 batches",
		"batches false, dones false", "batches false, dones true", "batches true, dones false", "batches true, dones true", "10 dones")
	s.wantAll(t, 10, "waits with 2")
	if s["for with 0"] > 0 {
		t.Error("one goes on with nothing")
	}
}

// Promise 21 in each house that any events lead to, of batches that need what others use, in whatever order they begin.
func TestPromise21InEveryHouse(t *testing.T) {
	for _, newcomers := range [][]impl.RunBatch{
		smallOnes(),
		{uses("c", "keg", "tun", "keg"), uses("b", "tun"), uses("a", "vat", "keg", "tun")},
	} {
		s := seen{}
		everyHouse(texts("keg", "tun", "vat"), newcomers, func(h impl.RunHouse, e event) {
			after, _ := e.do(h)
			s.wantBoardPromised(t, after)
		})
		s.wantAll(t, 20, "waits with 0", "waits with 1", "for with 1", "for with 2", "since 0", "since 1", "good", "scrapped")
	}
}

// Promise 21 in any house that is ok, however it came to be, and along long rows, with as many that ended as there can be.
func TestPromise21InMadeHouses(t *testing.T) {
	d := &dice{state: 72}
	s := seen{}
	for range 3000 {
		s.wantBoardPromised(t, d.okHouse(1+d.below(8), d.below(6)))
	}
	s.wantAll(t, 50, "waits with 0", "waits with 1", "waits with 2", "for with 1", "for with 2", "since 0", "since 2",
		"good", "saved", "scrapped", "0 batches", "5 batches", "0 dones", "10 dones", "20 dones")
	long := seen{}
	for range 10 {
		d.lead(1+d.below(6), 300, func(h impl.RunHouse, e event) { long.wantBoardPromised(t, h) })
	}
	long.wantAll(t, 200, "20 dones", "10 dones", "0 dones")
}

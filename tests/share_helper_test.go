package tests

import (
	"fmt"
	"slices"
	"testing"

	"loop.example/maltrun/impl"
)

// texts is a list of texts.
func texts(list ...string) []string {
	return list
}

// batch is somebody who shares.
func batch(name string, has, needs []string) impl.ShareBatch {
	return impl.ShareBatch{Name: name, Has: has, Needs: needs}
}

// cellar is a book that is safe: d waits on b, and a on d; c waits on nobody, and has nothing.
func cellar() impl.ShareBook {
	return impl.ShareBook{Things: texts("cask", "keg", "tun", "vat"), Batches: []impl.ShareBatch{
		batch("a", texts("keg"), texts("cask", "keg", "tun")),
		batch("b", texts("vat"), texts("vat")),
		batch("c", nil, nil),
		batch("d", texts("tun"), texts("tun", "vat")),
	}}
}

// ring is a book that is not safe: each of so many batches has a thing that the one ahead of it needs, all round.
func ring(n int) impl.ShareBook {
	b := impl.ShareBook{Things: numbered("t", n)}
	for i, name := range numbered("b", n) {
		needs := sorted(texts(b.Things[i], b.Things[(i+1)%n]))
		b.Batches = append(b.Batches, batch(name, b.Things[i:i+1], needs))
	}
	return b
}

// line is a book that is safe in one order alone, from the last batch to the first: each needs what the next one has.
func line(n int) impl.ShareBook {
	b := ring(n)
	b.Batches[n-1].Needs = b.Batches[n-1].Has
	return b
}

// numbered is so many names, ascending.
func numbered(first string, n int) []string {
	var names []string
	for i := range n {
		names = append(names, fmt.Sprint(first, i))
	}
	return names
}

// changed is the book cellar, changed as asked for.
func changed(change func(b *impl.ShareBook)) impl.ShareBook {
	b := cellar()
	change(&b)
	return b
}

// booksNotOk is books that are not ok, each for one reason alone.
func booksNotOk() map[string]impl.ShareBook {
	all := map[string]impl.ShareBook{
		"nine things":            {Things: numbered("t", 9)},
		"six batches":            {Batches: batchesCalled(numbered("b", 6)...)},
		"things not ascending":   {Things: texts("tun", "keg")},
		"a thing twice":          {Things: texts("keg", "keg")},
		"batches not ascending":  {Batches: batchesCalled("b", "a")},
		"a batch twice":          {Batches: batchesCalled("a", "a")},
		"no room, but a need":    {Batches: []impl.ShareBatch{batch("a", nil, texts("keg"))}},
		"an empty need":          {Batches: []impl.ShareBatch{batch("a", nil, texts(""))}},
		"very many things":       {Things: make([]string, 100000)},
		"very many batches":      {Batches: make([]impl.ShareBatch, 100000)},
		"needs no thing":         changed(func(b *impl.ShareBook) { b.Batches[2].Needs = texts("jug") }),
		"needs a batch":          changed(func(b *impl.ShareBook) { b.Batches[2].Needs = texts("a") }),
		"needs not ascending":    changed(func(b *impl.ShareBook) { b.Batches[0].Needs = texts("keg", "cask", "tun") }),
		"needs a thing twice":    changed(func(b *impl.ShareBook) { b.Batches[0].Needs = texts("cask", "keg", "keg") }),
		"has, but does not need": changed(func(b *impl.ShareBook) { b.Batches[1].Has = texts("cask") }),
		"has more than it needs": changed(func(b *impl.ShareBook) { b.Batches[1].Has = texts("cask", "vat") }),
		"has, but needs nothing": changed(func(b *impl.ShareBook) { b.Batches[2].Has = texts("cask") }),
		"has no thing":           changed(func(b *impl.ShareBook) { b.Batches[1].Has = texts("jug") }),
		"has an empty text":      changed(func(b *impl.ShareBook) { b.Batches[1].Has = texts("") }),
		"has not ascending":      changed(func(b *impl.ShareBook) { b.Batches[0].Has = texts("keg", "cask") }),
		"has a thing twice":      changed(func(b *impl.ShareBook) { b.Batches[1].Has = texts("vat", "vat") }),
		"two have one thing":     changed(func(b *impl.ShareBook) { b.Batches[3].Has = texts("tun", "vat") }),
		"the last is wrong":      changed(func(b *impl.ShareBook) { b.Batches[3].Needs = texts("tun", "vat", "zzz") }),
	}
	for _, text := range notNames() {
		all[fmt.Sprintf("thing %.20q", text)] = impl.ShareBook{Things: texts(text)}
		all[fmt.Sprintf("needed thing %.20q", text)] = impl.ShareBook{Things: texts(text), Batches: []impl.ShareBatch{batch("a", nil, texts(text))}}
		all[fmt.Sprintf("batch %.20q", text)] = impl.ShareBook{Batches: batchesCalled(text)}
	}
	return all
}

// batchesCalled is batches of these Names that need nothing.
func batchesCalled(names ...string) []impl.ShareBatch {
	var all []impl.ShareBatch
	for _, name := range names {
		all = append(all, batch(name, nil, nil))
	}
	return all
}

// notNames is the odd texts that are no names.
func notNames() []string {
	return slices.DeleteFunc(append(texts("A", "a_", "k\u00e9g", "keg ", " keg", "keg\x00", "a.b", "-------- "), oddTexts...), nameForm.MatchString)
}

// ascendingByForm says whether a list is as it would be if it were put in order, each once.
func ascendingByForm(list []string) bool {
	return slices.Equal(list, sorted(list))
}

// ofByForm says whether a list is of another one, ascending.
func ofByForm(list, whole []string) bool {
	for _, text := range list {
		if !slices.Contains(whole, text) {
			return false
		}
	}
	return ascendingByForm(list)
}

// bookOkByForm says by the document's words whether a book is ok.
func bookOkByForm(b impl.ShareBook) bool {
	if len(b.Things) > 8 || len(b.Batches) > 5 {
		return false
	}
	names := batchNames(b)
	for _, name := range slices.Concat(b.Things, names) {
		if !nameForm.MatchString(name) {
			return false
		}
	}
	var had []string
	for _, one := range b.Batches {
		if !ofByForm(one.Needs, b.Things) || !ofByForm(one.Has, one.Needs) {
			return false
		}
		had = append(had, one.Has...)
	}
	return ascendingByForm(b.Things) && ascendingByForm(names) && len(had) == len(sorted(had))
}

// batchNames is the Names of the batches of a book, by their places.
func batchNames(b impl.ShareBook) []string {
	var names []string
	for _, one := range b.Batches {
		names = append(names, one.Name)
	}
	return names
}

// canByForm says whether a batch can have all it needs, when those of these Names are gone.
func canByForm(b impl.ShareBook, name string, gone []string) bool {
	needs := b.Batches[slices.Index(batchNames(b), name)].Needs
	for _, other := range b.Batches {
		if other.Name == name || slices.Contains(gone, other.Name) {
			continue
		}
		for _, thing := range other.Has {
			if slices.Contains(needs, thing) {
				return false
			}
		}
	}
	return true
}

// fitsByForm says by the document's words whether a book is ok, and an order fits.
func fitsByForm(b impl.ShareBook, order []string) bool {
	if !bookOkByForm(b) || !slices.Equal(slices.Sorted(slices.Values(order)), batchNames(b)) {
		return false
	}
	for i, name := range order {
		if !canByForm(b, name, order[:i]) {
			return false
		}
	}
	return true
}

// allOrders is all orders of these names, in the order of their places.
func allOrders(names []string) [][]string {
	if len(names) == 0 {
		return [][]string{nil}
	}
	var all [][]string
	for i, first := range names {
		rest := slices.Concat(names[:i], names[i+1:])
		for _, order := range allOrders(rest) {
			all = append(all, append(texts(first), order...))
		}
	}
	return all
}

// orderByForm is the first of all orders that fits, which is the one that always takes the first who can: who can have
// all now still can when others are gone, so whoever is taken first, the rest can follow as in any order that fits.
func orderByForm(b impl.ShareBook) ([]string, bool) {
	if bookOkByForm(b) {
		for _, order := range allOrders(batchNames(b)) {
			if fitsByForm(b, order) {
				return order, true
			}
		}
	}
	return nil, false
}

// wantOrder holds what ShareOrder and ShareSafe answer against an order.
func wantOrder(t *testing.T, b impl.ShareBook, want []string, ok bool) {
	t.Helper()
	if order, can := impl.ShareOrder(b); can != ok || !slices.Equal(order, want) {
		t.Errorf("ShareOrder(%.300v) is %q and %v, should be %q and %v", b, order, can, want, ok)
	}
	if safe := impl.ShareSafe(b); safe != ok {
		t.Errorf("ShareSafe(%.300v) is %v, should be %v", b, safe, ok)
	}
}

// wantFits holds what ShareFits answers of an order against what it should.
func wantFits(t *testing.T, b impl.ShareBook, want bool, order ...string) {
	t.Helper()
	if fits := impl.ShareFits(b, order); fits != want {
		t.Errorf("ShareFits(%.300v, %.100q) is %v, should be %v", b, order, fits, want)
	}
}

// wantWho holds what ShareWho answers of a thing against what it should.
func wantWho(t *testing.T, b impl.ShareBook, thing, want string) {
	t.Helper()
	if who := impl.ShareWho(b, thing); who != want {
		t.Errorf("ShareWho(%.300v, %.20q) is %q, should be %q", b, thing, who, want)
	}
}

// someOf makes a part of a list, each with so many chances in ten.
func (d *dice) someOf(list []string, chances int) []string {
	var some []string
	for _, text := range list {
		if d.below(10) < chances {
			some = append(some, text)
		}
	}
	return some
}

// namesUpTo makes n names of a pool, ascending.
func (d *dice) namesUpTo(n int) []string {
	pool := texts("-", "--", "0", "10", "9", "a", "a-", "a0", "aa", "b", "keg", "keg1", "longname", "tun", "z", "zzzzzzzz")
	for len(pool) > n {
		at := d.below(len(pool))
		pool = slices.Delete(pool, at, at+1)
	}
	return pool
}

// okBook makes a book that is ok, of so many things and batches.
func (d *dice) okBook(things, batches int) impl.ShareBook {
	b := impl.ShareBook{Things: d.namesUpTo(things)}
	chances := 1 + d.below(8)
	free := d.someOf(b.Things, 2+d.below(9))
	for _, name := range d.namesUpTo(batches) {
		has := d.someOf(free, 4)
		free = slices.DeleteFunc(free, func(thing string) bool { return slices.Contains(has, thing) })
		needs := sorted(append(d.someOf(b.Things, chances), has...))
		b.Batches = append(b.Batches, batch(name, has, needs))
	}
	return b
}

// spoilBook changes one thing of a book, mostly for the worse.
func (d *dice) spoilBook(b impl.ShareBook) impl.ShareBook {
	if len(b.Batches) == 0 {
		b.Things = d.spoilList(b.Things)
		return b
	}
	one := &b.Batches[d.below(len(b.Batches))]
	switch d.below(7) {
	case 0:
		b.Things = d.spoilList(b.Things)
	case 1:
		one.Needs = d.spoilList(one.Needs)
	case 2:
		one.Has = d.spoilList(one.Has)
	case 3:
		one.Name = pick(d, append(batchNames(b), oddTexts...))
	case 4:
		one.Has = append(slices.Clone(one.Has), pick(d, b.Batches).Has...)
	case 5:
		for i := range 2 + d.below(3) {
			b.Batches = append(b.Batches, batch("zzzzzzz"+fmt.Sprint(i), nil, nil))
		}
	default:
		other := &b.Batches[d.below(len(b.Batches))]
		*one, *other = *other, *one
	}
	return b
}

// spoilList changes one place of a list.
func (d *dice) spoilList(list []string) []string {
	list = slices.Clone(list)
	at := d.below(len(list) + 1)
	if d.below(3) == 0 || len(list) == 0 {
		return slices.Insert(list, at, pick(d, append(slices.Clone(oddTexts), list...)))
	}
	at = d.below(len(list))
	other := d.below(len(list))
	switch d.below(3) {
	case 0:
		list[at], list[other] = list[other], list[at]
	case 1:
		list[at] = list[other]
	default:
		return slices.Delete(list, at, at+1)
	}
	return list
}

// anyBook makes a book that may be ok, or not.
func (d *dice) anyBook() impl.ShareBook {
	b := d.okBook(d.below(9), d.below(6))
	for range d.below(3) {
		b = d.spoilBook(b)
	}
	return b
}

// everyBook is each book that is ok, of so many things and batches: each thing is needed by any of the batches, and had by
// none or one of these.
func everyBook(things, batches int) []impl.ShareBook {
	if things == 0 {
		return []impl.ShareBook{{Batches: batchesCalled(numbered("b", batches)...)}}
	}
	thing := fmt.Sprint("t", things-1)
	var all []impl.ShareBook
	for _, less := range everyBook(things-1, batches) {
		for who := range 1 << batches {
			for holder := -1; holder < batches; holder++ {
				if holder < 0 || who>>holder&1 == 1 {
					all = append(all, withThing(less, thing, who, holder))
				}
			}
		}
	}
	return all
}

// withThing is a book with one thing more, needed by those whose bits are set in who, and had by one of them, or none (-1).
func withThing(b impl.ShareBook, thing string, who, holder int) impl.ShareBook {
	more := impl.ShareBook{Things: append(slices.Clone(b.Things), thing)}
	for i, one := range b.Batches {
		one.Needs, one.Has = slices.Clone(one.Needs), slices.Clone(one.Has)
		if who>>i&1 == 1 {
			one.Needs = append(one.Needs, thing)
		}
		if holder == i {
			one.Has = append(one.Has, thing)
		}
		more.Batches = append(more.Batches, one)
	}
	return more
}

package shelf_test

import (
	"math"
	"slices"
	"testing"

	"recension/api"
	"recension/shelf"
)

// What the promises say, reckoned another way than the program does: all ids stand in one plain row, and each answer is counted from its beginning.

const (
	least    = math.MinInt
	greatest = math.MaxInt
)

// standing is an id in a row, and whether it is seen.
type standing struct {
	id   api.Id
	seen bool
}

// row is ids one behind the other.
type row []standing

// id is what is named by these numbers.
func id(t, r, i int) api.Id { return api.Id{Stamp: api.Stamp{T: t, R: r}, I: i} }

// nth is a right id, another one for each n.
func nth(n int) api.Id { return id(1+n/7, 1+n%3, n) }

func (l row) at(x api.Id) int {
	return slices.IndexFunc(l, func(y standing) bool { return y.id == x })
}

func (l *row) put(at int, x api.Id, seen bool) api.Errno {
	switch {
	case at < 0 || at > len(*l):
		return api.ErrIndex
	case l.at(x) >= 0:
		return api.ErrTwice
	}
	*l = slices.Concat((*l)[:at], row{{x, seen}}, (*l)[at:])
	return api.OK
}

func (l row) show(x api.Id, seen bool) api.Errno {
	at := l.at(x)
	if at < 0 {
		return api.ErrNone
	}
	l[at].seen = seen
	return api.OK
}

func (l row) list(seen bool) []api.Id {
	var some []api.Id
	for _, x := range l {
		if !seen || x.seen {
			some = append(some, x.id)
		}
	}
	return some
}

// both are a shelf, and the row that it is held against.
type both struct {
	shelf *shelf.Shelf
	row   row
}

func fresh() *both { return &both{shelf: shelf.New()} }

// filled is what has the ids of l.
func filled(t *testing.T, l ...standing) *both {
	t.Helper()
	b := fresh()
	for n, x := range l {
		b.put(t, n, x.id, x.seen)
	}
	b.check(t)
	return b
}

// put puts into both, and holds the error against the row's, and the order ahead of it against the one behind it.
func (b *both) put(t *testing.T, at int, x api.Id, seen bool) {
	t.Helper()
	before, seenBefore := b.shelf.List(false), b.shelf.List(true)
	want := b.row.put(at, x, seen)
	if e := b.shelf.Put(at, x, seen); e != want {
		t.Fatalf("J1: Put(%d, %v, %t), where %d are: %d, not %d", at, x, seen, len(before), e, want)
	}
	if want != api.OK {
		b.stay(t, before, seenBefore)
		return
	}
	isNew := func(y api.Id) bool { return y == x }
	after, seenAfter := b.shelf.List(false), b.shelf.List(true)
	if !slices.Equal(slices.DeleteFunc(after, isNew), before) || !slices.Equal(slices.DeleteFunc(seenAfter, isNew), seenBefore) {
		t.Fatalf("J7: Put(%d, %v, %t), where %d are: the order of those did not stay", at, x, seen, len(before))
	}
}

// show shows in both, and holds the error against the row's, and the order ahead of it against the one behind it.
func (b *both) show(t *testing.T, x api.Id, seen bool) {
	t.Helper()
	before, seenBefore := b.shelf.List(false), b.shelf.List(true)
	want := b.row.show(x, seen)
	if e := b.shelf.Show(x, seen); e != want {
		t.Fatalf("J2: Show(%v, %t): %d, not %d", x, seen, e, want)
	}
	if want != api.OK {
		b.stay(t, before, seenBefore)
	}
	if !slices.Equal(b.shelf.List(false), before) {
		t.Fatalf("J2: Show(%v, %t): the ids changed", x, seen)
	}
}

// stay fails if the lists are others than these.
func (b *both) stay(t *testing.T, all, seen []api.Id) {
	t.Helper()
	if !slices.Equal(b.shelf.List(false), all) || !slices.Equal(b.shelf.List(true), seen) {
		t.Fatal("beside an error something is changed")
	}
}

// check holds every answer against the row.
func (b *both) check(t *testing.T) {
	t.Helper()
	all, seen := b.row.list(false), b.row.list(true)
	b.counts(t, len(all), len(seen))
	if got := b.shelf.List(false); !slices.Equal(got, all) {
		t.Fatalf("J6: List(false): %v, not %v", got, all)
	}
	if got := b.shelf.List(true); !slices.Equal(got, seen) {
		t.Fatalf("J6: List(true): %v, not %v", got, seen)
	}
	for k, x := range seen {
		b.find(t, k, x, api.OK)
	}
	for _, k := range []int{least, least + 1, -2, -1, len(seen), len(seen) + 1, len(all) + 1, greatest - 1, greatest} {
		b.find(t, k, api.Id{}, api.ErrIndex)
	}
	ahead := 0
	for n, x := range b.row {
		b.place(t, x.id, n, ahead, api.OK)
		if x.seen {
			ahead++
		}
	}
	missing := id(99, 9, 99)
	b.place(t, missing, 0, 0, api.ErrNone)
	if e := b.shelf.Show(missing, true); e != api.ErrNone {
		t.Fatalf("J2: Show of an id that is not there: %d", e)
	}
	b.thereAndBack(t)
	b.counts(t, len(all), len(seen)) // what was asked changed nothing
}

func (b *both) counts(t *testing.T, all, seen int) {
	t.Helper()
	if a, c := b.shelf.All(), b.shelf.Count(); a != all || c != seen {
		t.Fatalf("J3: All, Count: %d, %d, not %d, %d", a, c, all, seen)
	}
}

func (b *both) find(t *testing.T, k int, x api.Id, e api.Errno) {
	t.Helper()
	if got, f := b.shelf.Find(k); got != x || f != e {
		t.Fatalf("J4: Find(%d), where %d of %d are seen: %v, %d, not %v, %d", k, b.shelf.Count(), b.shelf.All(), got, f, x, e)
	}
}

func (b *both) place(t *testing.T, x api.Id, all, seen int, e api.Errno) {
	t.Helper()
	if m, n, f := b.shelf.Place(x); m != all || n != seen || f != e {
		t.Fatalf("J5: Place(%v), where %d of %d are seen: %d, %d, %d, not %d, %d, %d", x, b.shelf.Count(), b.shelf.All(), m, n, f, all, seen, e)
	}
}

// thereAndBack holds Find and Place against each other, without the row.
func (b *both) thereAndBack(t *testing.T) {
	t.Helper()
	list := b.shelf.List(false)
	found := 0
	for k := range b.shelf.Count() {
		x, e := b.shelf.Find(k)
		all, seen, f := b.shelf.Place(x)
		if e != api.OK || f != api.OK || seen != k || list[all] != x {
			t.Fatalf("J7: found at %d is %v, %d, whose place is %d, %d, %d", k, x, e, all, seen, f)
		}
		found++
	}
	for n, x := range list {
		all, seen, e := b.shelf.Place(x)
		if all != n || e != api.OK {
			t.Fatalf("J7: the place of %v, which is listed at %d: %d, %d, %d", x, n, all, seen, e)
		}
		if y, e := b.shelf.Find(seen); e == api.OK && y == x {
			found--
		}
	}
	if found != 0 {
		t.Fatalf("J7: %d more are seen than are found at their places", found)
	}
}

package sheet_test

import (
	"fmt"
	"math"
	"slices"
	"strings"
	"testing"
	"unicode/utf8"

	"recension/api"
	"recension/sheet"
	"recension/weave"
)

// What the promises say, reckoned another way than the program does: all acts are written down, and each answer is made anew of layer 9's order of all runs.

const (
	least    = math.MinInt
	greatest = math.MaxInt
)

// id is what is named by these numbers.
func id(t, r, i int) api.Id { return api.Id{Stamp: api.Stamp{T: t, R: r}, I: i} }

// run is a run behind after.
func run(after, elem api.Id, text string) api.Run {
	return api.Run{After: after, Elem: elem, Text: text}
}

// namesOf are the names of r's elements; r has a text.
func namesOf(r api.Run) []api.Id {
	var names []api.Id
	for n := range utf8.RuneCountInString(r.Text) {
		x := r.Elem
		x.I = int(uint64(x.I) + uint64(n))
		names = append(names, x)
	}
	return names
}

// book is what was done.
type book struct {
	runs  []api.Run
	on    map[api.Stamp]int
	taken map[api.Id]int         // of the elements that are there
	acts  []func(s *sheet.Sheet) // all of it, to be done again
}

func (b *book) add(r api.Run) api.Errno {
	names := namesOf(r)
	_, behind := b.taken[r.After]
	switch {
	case r.Text == "" || !utf8.ValidString(r.Text):
		return api.ErrText
	case r.After != id(0, 0, 0) && !behind:
		return api.ErrNone
	case slices.ContainsFunc(names, func(x api.Id) bool { _, is := b.taken[x]; return is || x == id(0, 0, 0) }):
		return api.ErrTwice
	}
	for _, x := range names {
		b.taken[x] = 0
	}
	b.runs = append(b.runs, r)
	b.acts = append(b.acts, func(s *sheet.Sheet) { s.Add(r) })
	return api.OK
}

func (b *book) set(x api.Stamp, on bool) {
	if on {
		b.on[x]++
	} else {
		b.on[x]--
	}
	b.acts = append(b.acts, func(s *sheet.Sheet) { s.Set(x, on) })
}

func (b *book) take(x api.Id, gone bool) api.Errno {
	if _, is := b.taken[x]; !is {
		return api.ErrNone
	}
	if gone {
		b.taken[x]++
	} else {
		b.taken[x]--
	}
	b.acts = append(b.acts, func(s *sheet.Sheet) { s.Take(x, gone) })
	return api.OK
}

// seen are the names of the elements that are seen, and their code points, in layer 9's order.
func (b *book) seen() ([]api.Id, string) {
	var on []api.Stamp
	for x, n := range b.on {
		if n > 0 {
			on = append(on, x)
		}
	}
	var gone []api.Id
	for x, n := range b.taken {
		if n > 0 {
			gone = append(gone, x)
		}
	}
	return weave.Seen(b.runs, on, gone)
}

// both are a sheet, and the book that it is held against.
type both struct {
	sheet *sheet.Sheet
	book  book
}

func fresh() *both {
	return &both{sheet.New(), book{on: map[api.Stamp]int{}, taken: map[api.Id]int{}}}
}

// filled is what has these runs, all of whose stamps are on.
func filled(t *testing.T, l ...api.Run) *both {
	t.Helper()
	b := fresh()
	for _, r := range l {
		b.add(t, r)
		if b.book.on[r.Elem.Stamp] == 0 {
			b.set(r.Elem.Stamp, true)
		}
	}
	b.check(t)
	return b
}

// add adds to both, and holds the error against the book's.
func (b *both) add(t *testing.T, r api.Run) {
	t.Helper()
	kept := b.told()
	want := b.book.add(r)
	if e := b.sheet.Add(r); e != want {
		t.Fatalf("K1: Add(%s), behind %s: %d, not %d", short(r), short(b.book.runs), e, want)
	}
	if want != api.OK && b.told() != kept {
		t.Fatalf("K1: Add(%s): beside the error %d something is changed", short(r), want)
	}
}

func (b *both) set(x api.Stamp, on bool) {
	b.book.set(x, on)
	b.sheet.Set(x, on)
}

// take takes from both, or returns, and holds the error against the book's.
func (b *both) take(t *testing.T, x api.Id, gone bool) {
	t.Helper()
	kept := b.told()
	want := b.book.take(x, gone)
	if e := b.sheet.Take(x, gone); e != want {
		t.Fatalf("K3: Take(%v, %t), behind %s: %d, not %d", x, gone, short(b.book.runs), e, want)
	}
	if want != api.OK && b.told() != kept {
		t.Fatalf("K3: Take(%v, %t): beside the error %d something is changed", x, gone, want)
	}
}

// told is a short form of what is seen.
func (b *both) told() string {
	return strings.Repeat("|", b.sheet.Len()) + b.sheet.Text()
}

// again is another sheet, with which all was done that was done with b's.
func (b *both) again() *sheet.Sheet {
	s := sheet.New()
	for _, act := range b.book.acts {
		act(s)
	}
	return s
}

// short is what stands in a run, or in a list of them, cut.
func short(x any) string {
	s := fmt.Sprintf("%+q", fmt.Sprint(x))
	return s[:min(len(s), 400)]
}

// check holds every answer against the book.
func (b *both) check(t *testing.T) {
	t.Helper()
	ids, text := b.book.seen()
	if n := b.sheet.Len(); n != len(ids) {
		t.Fatalf("K4: Len, behind %s: %d, not %d", short(b.book.runs), n, len(ids))
	}
	if s := b.sheet.Text(); s != text {
		t.Fatalf("K4: Text, behind %s: %+q, not %+q", short(b.book.runs), s, text)
	}
	b.behind(t, 0, id(0, 0, 0), api.OK)
	for k, x := range ids {
		b.at(t, k, x, api.OK)
		b.behind(t, k+1, x, api.OK)
	}
	n := len(ids)
	for _, k := range []int{least, least + 1, -1 << 32, -2, -1, n + 1, n + 2, 1 << 32, greatest - 1, greatest} {
		b.at(t, k, id(0, 0, 0), api.ErrIndex)
		b.behind(t, k, id(0, 0, 0), api.ErrIndex)
	}
	b.at(t, n, id(0, 0, 0), api.ErrIndex)
}

func (b *both) at(t *testing.T, k int, want api.Id, f api.Errno) {
	t.Helper()
	if x, e := b.sheet.At(k); x != want || e != f {
		t.Fatalf("K5: At(%d), behind %s: %v %d, not %v %d", k, short(b.book.runs), x, e, want, f)
	}
}

func (b *both) behind(t *testing.T, k int, want api.Id, f api.Errno) {
	t.Helper()
	if x, e := b.sheet.Behind(k); x != want || e != f {
		t.Fatalf("K6: Behind(%d), behind %s: %v %d, not %v %d", k, short(b.book.runs), x, e, want, f)
	}
}

// checkTyped fails if a run whose stamp is on and behind all others is not in the text at the place k, for which it was added.
func (b *both) checkTyped(t *testing.T, k int, text string) {
	t.Helper()
	for _, early := range []bool{true, false} {
		s := b.again()
		newest := api.Stamp{T: b.time() + 1, R: 1}
		was, more := []rune(s.Text()), []rune(text)
		x, e := s.Behind(k)
		if e != api.OK {
			t.Fatalf("K6: Behind(%d) of %q: %d", k, string(was), e)
		}
		if early {
			s.Set(newest, true)
		}
		if e := s.Add(run(x, api.Id{Stamp: newest, I: 3}, text)); e != api.OK {
			t.Fatalf("K7: Add behind Behind(%d) of %q: %d", k, string(was), e)
		}
		if !early {
			s.Set(newest, true)
		}
		if got := s.Text(); got != string(slices.Concat(was[:k], more, was[k:])) {
			t.Fatalf("K7: %q added behind Behind(%d) of %q: %q", text, k, string(was), got)
		}
		for n := range more {
			if x, e := s.At(k + n); x != (api.Id{Stamp: newest, I: 3 + n}) || e != api.OK {
				t.Fatalf("K7: %q added behind Behind(%d) of %q: at %d: %v %d", text, k, string(was), k+n, x, e)
			}
		}
	}
}

// time is the greatest time of a stamp.
func (b *both) time() int {
	most := 0
	for _, r := range b.book.runs {
		most = max(most, r.Elem.T)
	}
	for x := range b.book.on {
		most = max(most, x.T)
	}
	return most
}

// checkTaken fails if all is not as it was, when x was taken and returned, or returned and taken, and what was set was set back.
func (b *both) checkTaken(t *testing.T, x api.Id) {
	t.Helper()
	kept := b.told()
	for _, gone := range []bool{true, false} {
		for _, y := range []bool{gone, gone, !gone, !gone} {
			if e := b.sheet.Take(x, y); e != api.OK {
				t.Fatalf("K3: Take(%v, %t): %d", x, y, e)
			}
		}
		if b.told() != kept {
			t.Fatalf("K7: %v was taken and returned: %q, not %q", x, b.told(), kept)
		}
		b.sheet.Set(x.Stamp, gone)
		b.sheet.Set(x.Stamp, !gone)
		if b.told() != kept {
			t.Fatalf("K2: %v was set and set back: %q, not %q", x.Stamp, b.told(), kept)
		}
	}
}

// checkTheorem holds K7's first two sentences against what is there.
func (b *both) checkTheorem(t *testing.T) {
	t.Helper()
	for k := range b.sheet.Len() + 1 {
		b.checkTyped(t, k, "nö")
	}
	for x := range b.book.taken {
		b.checkTaken(t, x)
	}
	b.check(t)
}

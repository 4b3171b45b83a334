package sheet_test

import (
	"math/rand"
	"slices"
	"testing"

	"recension/api"
	"recension/sheet"
)

// TestSmall goes by all rows of three runs of few names, those that are refused with them.
func TestSmall(t *testing.T) {
	var all []api.Run
	for _, after := range []api.Id{none, id(1, 1, 0), id(1, 1, 1), id(2, 1, 0)} {
		for _, elem := range []api.Id{id(1, 1, 0), id(1, 1, 1), id(1, 2, 0), id(2, 1, 0), id(2, 1, -1)} {
			all = append(all, run(after, elem, "a"), run(after, elem, "bc"))
		}
	}
	for _, p := range all {
		for _, q := range all {
			for _, r := range all {
				b := fresh()
				for _, x := range []api.Run{p, q, r} {
					b.add(t, x)
				}
				for _, x := range []api.Stamp{stampOf(1, 1), stampOf(2, 1), stampOf(1, 2)} {
					b.set(x, true)
				}
				b.check(t)
			}
		}
	}
}

// TestAnyOrder has drawn runs, many of them behind one and the same, come in several orders: all texts are the same.
func TestAnyOrder(t *testing.T) {
	for seed := range int64(150) {
		draw := rand.New(rand.NewSource(seed))
		l := drawnRuns(draw, 2+draw.Intn(30), 1+draw.Intn(6))
		want := filled(t, l...)
		for range 8 {
			other := filled(t, shuffled(draw, l)...)
			if got := other.sheet.Text(); got != want.sheet.Text() {
				t.Fatalf("K7: %s in another order: %q, not %q", short(l), got, want.sheet.Text())
			}
		}
	}
}

// drawnRuns are runs with names of their own, each behind the beginning or one of the near elements of those ahead of it, whose stamps are in no order.
func drawnRuns(draw *rand.Rand, count, near int) []api.Run {
	var l []api.Run
	there := []api.Id{none}
	for n, time := range draw.Perm(count) {
		after := there[max(0, len(there)-1-draw.Intn(near*2))]
		if draw.Intn(4) == 0 {
			after = there[draw.Intn(min(near, len(there)))]
		}
		text := []rune("abcdefghijklmnopqrstuvwxyzé😀")[n%25:]
		r := run(after, id(1+time/3, 1+time%3, draw.Intn(3)), string(text[:1+draw.Intn(3)]))
		there = append(there, namesOf(r)...)
		l = append(l, r)
	}
	return l
}

// shuffled is l in another order, in which each stands behind what comes ahead of it.
func shuffled(draw *rand.Rand, l []api.Run) []api.Run {
	var come []api.Run
	there := []api.Id{none}
	for wait := slices.Clone(l); len(wait) > 0; {
		n := draw.Intn(len(wait))
		for !slices.Contains(there, wait[n].After) {
			n = (n + 1) % len(wait)
		}
		come = append(come, wait[n])
		there = append(there, namesOf(wait[n])...)
		wait = slices.Delete(wait, n, n+1)
	}
	return come
}

// TestOrdersOfSiblings has five runs that do not stand behind one another come in each order.
func TestOrdersOfSiblings(t *testing.T) {
	base := run(none, id(4, 1, 0), "ab")
	for _, afters := range [][]api.Id{
		{none, none, none, none, none},
		{id(4, 1, 0), id(4, 1, 0), id(4, 1, 0), id(4, 1, 0), id(4, 1, 0)},
		{none, id(4, 1, 0), id(4, 1, 1), id(4, 1, 0), none},
		{id(4, 1, 1), none, id(4, 1, 1), id(4, 1, 1), id(4, 1, 0)},
	} {
		var l []api.Run
		for n, x := range []api.Id{id(2, 1, 0), id(6, 2, 1), id(4, 1, 7), id(6, 1, 3), id(4, 2, 0)} {
			l = append(l, run(afters[n], x, []string{"c", "de", "f", "ghi", "j"}[n]))
		}
		want := filled(t, slices.Concat([]api.Run{base}, l)...).sheet.Text()
		ordersOf(l, func(l []api.Run) {
			b := filled(t, slices.Concat([]api.Run{base}, l)...)
			if got := b.sheet.Text(); got != want {
				t.Fatalf("K7: %s in another order: %q, not %q", short(l), got, want)
			}
		})
	}
}

// drawnAct is a right or a wrong act.
func drawnAct(t *testing.T, b *both, kind, x, y, z int) {
	t.Helper()
	name := id(x/5%9, x%5%3, x/45%4-1)
	if x%3 == 0 {
		name = b.drawnName(x / 3)
	}
	switch kind %= 8; kind {
	case 0, 1:
		b.set(name.Stamp, kind == 0)
	case 2:
		b.set(name.Stamp, true)
	case 3, 4:
		b.take(t, name, kind == 3)
	default:
		texts := []string{"a", "é", "b😀", "xyz", "€", "\xff", "", "c\x00", "wxyz", "\U0010ffff"}
		b.add(t, run(b.drawnName(y), name, texts[z%len(texts)]))
	}
}

// drawnName is a name that most often is there: the empty id's, an element's, or the one behind a run's last one.
func (b *both) drawnName(n int) api.Id {
	count := len(b.book.runs)
	if n%(count+1) == count {
		return none
	}
	r := b.book.runs[n%(count+1)]
	names := append(namesOf(r), id(r.Elem.T, r.Elem.R, r.Elem.I+len([]rune(r.Text))))
	return names[n/7%len(names)]
}

// TestDrawnActs draws right and wrong acts; behind each one every answer is held against layer 9's order.
func TestDrawnActs(t *testing.T) {
	elements := 0
	for seed := range int64(24) {
		draw := rand.New(rand.NewSource(100 + seed))
		b := fresh()
		for range 250 {
			drawnAct(t, b, draw.Intn(8), draw.Intn(1000), draw.Intn(1000), draw.Intn(40))
			b.check(t)
		}
		b.checkTheorem(t)
		elements += len(b.book.taken)
	}
	if elements < 24*20 {
		t.Errorf("%d elements: too few to tell anything", elements)
	}
}

// TestTyped writes as an editor does: behind Behind(k), with the newest stamp; the text is the one that is typed.
func TestTyped(t *testing.T) {
	draw := rand.New(rand.NewSource(6))
	b := fresh()
	var text []rune
	for n := range 300 {
		k := draw.Intn(len(text) + 1)
		after, e := b.sheet.Behind(k)
		if e != api.OK {
			t.Fatalf("K6: Behind(%d): %d", k, e)
		}
		r := run(after, id(n+1, 1+n%3, n), []string{"a", "éb", "😀cd"}[n%3])
		b.set(r.Elem.Stamp, true)
		b.add(t, r)
		text = slices.Insert(text, k, []rune(r.Text)...)
		if n%4 == 3 {
			gone := draw.Intn(len(text))
			x, e := b.sheet.At(gone)
			if e != api.OK {
				t.Fatalf("K5: At(%d): %d", gone, e)
			}
			b.take(t, x, true)
			text = slices.Delete(text, gone, gone+1)
		}
		if got := b.sheet.Text(); got != string(text) {
			t.Fatalf("K7: typed: %q, not %q", got, string(text))
		}
		b.check(t)
	}
}

// TestManyBehindOneAnother has long ways from the beginning, and checks now and then.
func TestManyBehindOneAnother(t *testing.T) {
	const count = 3000
	for why, after := range map[string]func(n int) api.Id{
		"each behind the one ahead of it":     func(n int) api.Id { return id(n, 1, 0) },
		"each behind the one two ahead of it": func(n int) api.Id { return id(max(n-1, 0), min(n-1, 1), 0) },
		"all behind the beginning":            func(n int) api.Id { return none },
		"all behind the first one":            func(n int) api.Id { return id(min(n, 1), 1, 0) },
		"by turns":                            func(n int) api.Id { return id(n-n%7, 1, 0) },
	} {
		for _, newer := range []bool{true, false} {
			t.Run(why, func(t *testing.T) {
				t.Parallel()
				b := fresh()
				name := func(x api.Id) api.Id {
					if x.T == 0 {
						return none
					}
					if !newer {
						x.T = count + 1 - x.T
					}
					return x
				}
				for n := range count {
					r := run(name(after(n)), name(id(n+1, 1, 0)), "é")
					if e := b.sheet.Add(r); e != api.OK || b.book.add(r) != api.OK {
						t.Fatalf("K1: Add(%s): %d", short(r), e)
					}
					b.set(r.Elem.Stamp, n%3 > 0)
					if n%1000 == 700 {
						b.check(t)
					}
				}
				for n := range count {
					b.set(id(n+1, 1, 0).Stamp, true)
				}
				b.check(t)
				for n := range count {
					if n%4 == 1 {
						if x := id(n+1, 1, 0); b.sheet.Take(x, true) != api.OK || b.book.take(x, true) != api.OK {
							t.Fatalf("K3: Take(%v)", x)
						}
					}
				}
				b.check(t)
			})
		}
	}
}

// TestManyDrawn has so many drawn runs that places are far from the beginning.
func TestManyDrawn(t *testing.T) {
	for seed := range int64(6) {
		draw := rand.New(rand.NewSource(200 + seed))
		b := fresh()
		for n, r := range drawnRuns(draw, 2500, 1+int(seed)*40) {
			if e := b.sheet.Add(r); e != api.OK || b.book.add(r) != api.OK {
				t.Fatalf("K1: Add(%s): %d", short(r), e)
			}
			b.set(r.Elem.Stamp, true)
			if n%600 == 599 {
				b.check(t)
			}
		}
		b.check(t)
	}
}

// TestLongRun has a run, and one stamp, of very many elements; calls whose time grew with their number would be felt.
func TestLongRun(t *testing.T) {
	const count = 100000
	text := make([]rune, count)
	for n := range text {
		text[n] = 'a' + rune(n%26)
	}
	s := sheetWith(t, run(none, id(2, 1, 0), string(text)), run(id(2, 1, count-1), id(1, 1, 0), "Z"))
	s.Set(stampOf(2, 1), true)
	if s.Text() != string(text) || s.Len() != count {
		t.Fatalf("K4: %d seen", s.Len())
	}
	if e := s.Add(run(none, id(2, 1, -3), "abcd")); e != api.ErrTwice {
		t.Errorf("K1: %d", e)
	}
	if e := s.Add(run(none, id(1, 2, 0), "older")); e != api.OK { // passes all of them
		t.Errorf("K1: %d", e)
	}
	s.Set(stampOf(1, 2), true)
	s.Set(stampOf(1, 1), true)
	if s.Text() != string(text)+"Zolder" {
		t.Errorf("K4: %d seen", s.Len())
	}
	for n := range count {
		if n%2 == 0 && s.Take(id(2, 1, n), true) != api.OK {
			t.Fatalf("K3: Take of %d", n)
		}
	}
	for k := range count / 2 {
		if x, e := s.At(k); x != id(2, 1, 2*k+1) || e != api.OK {
			t.Fatalf("K5: At(%d): %v %d", k, x, e)
		}
		if x, e := s.Behind(k + 1); x != id(2, 1, 2*k+1) || e != api.OK {
			t.Fatalf("K6: Behind(%d): %v %d", k+1, x, e)
		}
	}
	s.Set(stampOf(2, 1), false)
	wantText(t, s, "all off", "Zolder")
}

// TestVeryManyTyped has many small runs, each of which is the newest.
func TestVeryManyTyped(t *testing.T) {
	const count = 60000
	s := sheet.New()
	for n := range count {
		k := n / 2
		after, e := s.Behind(k)
		if e != api.OK {
			t.Fatalf("K6: Behind(%d): %d", k, e)
		}
		x := id(n+1, 1, 0)
		s.Set(x.Stamp, true)
		if e := s.Add(run(after, x, "a")); e != api.OK {
			t.Fatalf("K1: Add behind Behind(%d): %d", k, e)
		}
		if y, e := s.At(k); y != x || e != api.OK {
			t.Fatalf("K7: At(%d): %v %d", k, y, e)
		}
	}
	if s.Len() != count || len(s.Text()) != count {
		t.Fatalf("K4: %d seen", s.Len())
	}
}

// FuzzSheet makes acts of bytes, four for each.
func FuzzSheet(f *testing.F) {
	f.Add([]byte("\x05\x05\x00\x03\x02\x05\x00\x00\x05\x0a\x05\x02\x02\x0a\x00\x00\x03\x05\x00\x00"))
	f.Add([]byte("\x05\x05\x00\x08\x05\x0b\x05\x01\x05\x10\x05\x02\x05\x11\x32\x03\x02\x05\x00\x00\x02\x0b\x00\x00\x02\x10\x00\x00"))
	f.Fuzz(func(t *testing.T, acts []byte) {
		b := fresh()
		for ; len(acts) >= 4; acts = acts[4:] {
			drawnAct(t, b, int(acts[0]), int(acts[1]), int(acts[2]), int(acts[3]))
			if len(acts) < 400 {
				b.check(t)
			}
		}
		b.check(t)
	})
}

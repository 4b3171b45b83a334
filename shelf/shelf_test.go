package shelf_test

import (
	"fmt"
	"math/rand"
	"slices"
	"testing"

	"recension/api"
	"recension/shelf"
)

// Right ids, that differ in one number each from the first.
var a, b, c, d, x = id(1, 1, 0), id(1, 1, 1), id(1, 2, 0), id(2, 1, 0), id(1, 1, 2)

func TestExample(t *testing.T) {
	s := shelf.New()
	if s.Put(0, a, true) != api.OK || s.Put(0, b, false) != api.OK || s.Put(1, c, true) != api.OK {
		t.Error("J1: Put")
	}
	if l := s.List(false); !slices.Equal(l, []api.Id{b, c, a}) {
		t.Errorf("J6: %v", l)
	}
	if l := s.List(true); !slices.Equal(l, []api.Id{c, a}) {
		t.Errorf("J6: %v", l)
	}
	if y, e := s.Find(0); y != c || e != api.OK {
		t.Errorf("J4: %v %d", y, e)
	}
	if all, seen, e := s.Place(a); all != 2 || seen != 1 || e != api.OK {
		t.Errorf("J5: %d %d %d", all, seen, e)
	}
	if s.All() != 3 || s.Count() != 2 {
		t.Errorf("J3: %d %d", s.All(), s.Count())
	}
}

func TestWithoutIds(t *testing.T) {
	s := shelf.New()
	if s == nil {
		t.Fatal("J1: no shelf")
	}
	if s.All() != 0 || s.Count() != 0 {
		t.Errorf("J3: %d %d", s.All(), s.Count())
	}
	for _, k := range []int{least, -1, 0, 1, greatest} {
		if y, e := s.Find(k); y != (api.Id{}) || e != api.ErrIndex {
			t.Errorf("J4: Find(%d): %v %d", k, y, e)
		}
	}
	for _, y := range []api.Id{a, {}, id(least, -1, greatest)} {
		if all, seen, e := s.Place(y); all != 0 || seen != 0 || e != api.ErrNone {
			t.Errorf("J5: Place(%v): %d %d %d", y, all, seen, e)
		}
		if e, f := s.Show(y, true), s.Show(y, false); e != api.ErrNone || f != api.ErrNone {
			t.Errorf("J2: Show(%v): %d %d", y, e, f)
		}
	}
	for _, at := range []int{least, least + 1, -1, 1, 2, greatest - 1, greatest} {
		if e := s.Put(at, a, true); e != api.ErrIndex {
			t.Errorf("J1: Put at %d: %d", at, e)
		}
	}
	if len(s.List(false)) != 0 || len(s.List(true)) != 0 || s.All() != 0 || s.Count() != 0 {
		t.Errorf("J6: %v %v", s.List(false), s.List(true))
	}
	for _, seen := range []bool{true, false} {
		one := fresh()
		one.put(t, 0, a, seen)
		one.check(t)
	}
}

func TestPut(t *testing.T) {
	for _, seen := range []bool{true, false} {
		for _, y := range []struct {
			at   int
			want []api.Id
			e    api.Errno
		}{
			{0, []api.Id{x, a, b, c}, api.OK},
			{1, []api.Id{a, x, b, c}, api.OK},
			{2, []api.Id{a, b, x, c}, api.OK},
			{3, []api.Id{a, b, c, x}, api.OK},
			{4, []api.Id{a, b, c}, api.ErrIndex},
			{5, []api.Id{a, b, c}, api.ErrIndex},
			{-1, []api.Id{a, b, c}, api.ErrIndex},
			{least, []api.Id{a, b, c}, api.ErrIndex},
			{least + 1, []api.Id{a, b, c}, api.ErrIndex},
			{greatest, []api.Id{a, b, c}, api.ErrIndex},
			{greatest - 1, []api.Id{a, b, c}, api.ErrIndex},
			{1 << 32, []api.Id{a, b, c}, api.ErrIndex},
			{-1 << 32, []api.Id{a, b, c}, api.ErrIndex},
		} {
			l := filled(t, standing{a, true}, standing{b, false}, standing{c, true})
			if e := l.shelf.Put(y.at, x, seen); e != y.e {
				t.Errorf("J1: Put at %d: %d, not %d", y.at, e, y.e)
			}
			if got := l.shelf.List(false); !slices.Equal(got, y.want) {
				t.Errorf("J1: Put at %d: %v, not %v", y.at, got, y.want)
			}
			l.row.put(y.at, x, seen)
			l.check(t)
			if got := slices.Contains(l.shelf.List(true), x); got != (seen && y.e == api.OK) {
				t.Errorf("J1: Put at %d, seen %t: seen %t", y.at, seen, got)
			}
		}
	}
}

func TestPutTwice(t *testing.T) {
	three := []standing{{a, true}, {b, false}, {c, true}}
	for _, y := range three {
		for _, seen := range []bool{true, false} {
			l := filled(t, three...)
			for at := range 4 {
				if e := l.shelf.Put(at, y.id, seen); e != api.ErrTwice {
					t.Errorf("J1: Put of %v again, at %d: %d", y.id, at, e)
				}
			}
			for _, at := range []int{least, -1, 4, greatest} { // two errors: the place is named first
				if e := l.shelf.Put(at, y.id, seen); e != api.ErrIndex {
					t.Errorf("J1: Put of %v again, at %d: %d", y.id, at, e)
				}
			}
			l.check(t)
			l.show(t, y.id, false) // what is not seen is there all the same
			for at := range 4 {
				l.put(t, at, y.id, true)
			}
			l.check(t)
		}
	}
}

func TestRefusedIsNotKept(t *testing.T) {
	l := filled(t, standing{a, true}, standing{b, true})
	for _, at := range []int{3, -1, least, greatest} {
		l.put(t, at, x, true)
	}
	l.place(t, x, 0, 0, api.ErrNone)
	l.show(t, x, true)
	l.put(t, 2, x, true) // nor is it there twice now
	l.check(t)
	l.put(t, 3, c, false)
	l.check(t)
}

func TestShow(t *testing.T) {
	for _, was := range []bool{true, false} {
		for _, seen := range []bool{true, false} {
			for _, y := range []api.Id{a, b, c} {
				l := filled(t, standing{a, was}, standing{b, was}, standing{c, was})
				l.show(t, y, seen)
				if got := slices.Contains(l.shelf.List(true), y); got != seen {
					t.Errorf("J2: Show(%v, %t): %t", y, seen, got)
				}
				l.check(t)
				l.show(t, y, seen) // twice
				l.check(t)
				l.show(t, y, !seen)
				l.check(t)
				l.show(t, y, seen)
				l.check(t)
				for _, z := range []api.Id{x, d, {}, id(1, 1, -1), id(2, 2, 0), id(least, least, least)} { // not there
					l.show(t, z, seen)
				}
				l.check(t)
			}
		}
	}
}

// eachWay calls f with n ids, in each way of being seen or not.
func eachWay(n int, f func(l []standing)) {
	for bits := range 1 << n {
		var l []standing
		for i := range n {
			l = append(l, standing{nth(i), bits>>i&1 == 1})
		}
		f(l)
	}
}

func TestFind(t *testing.T) {
	for _, y := range []struct {
		why  string
		seen []bool
		want []int
	}{
		{"all", []bool{true, true, true}, []int{0, 1, 2}},
		{"none", []bool{false, false, false}, nil},
		{"unseen ones ahead", []bool{false, false, true, true}, []int{2, 3}},
		{"unseen ones between", []bool{true, false, false, true}, []int{0, 3}},
		{"unseen ones behind", []bool{true, true, false, false}, []int{0, 1}},
		{"unseen ones everywhere", []bool{false, true, false, false, true, false, true, false}, []int{1, 4, 6}},
	} {
		l := fresh()
		for n, seen := range y.seen {
			l.put(t, n, nth(n), seen)
		}
		for k, n := range y.want {
			if z, e := l.shelf.Find(k); z != nth(n) || e != api.OK {
				t.Errorf("J4: %s: Find(%d): %v %d", y.why, k, z, e)
			}
		}
		for _, k := range []int{least, least + 1, -1, len(y.want), len(y.want) + 1, len(y.seen), greatest - 1, greatest} {
			if k >= 0 && k < len(y.want) {
				continue
			}
			if z, e := l.shelf.Find(k); z != (api.Id{}) || e != api.ErrIndex {
				t.Errorf("J4: %s: Find(%d): %v %d", y.why, k, z, e)
			}
		}
		l.check(t)
	}
	for n := range 7 {
		eachWay(n, func(l []standing) { filled(t, l...) })
	}
}

func TestPlace(t *testing.T) {
	eachWay(5, func(l []standing) {
		s := filled(t, l...)
		for _, n := range []int{0, 2, 4} { // the first, a middle and the last one
			seen := 0
			for _, y := range l[:n] {
				if y.seen {
					seen++
				}
			}
			s.place(t, nth(n), n, seen, api.OK)
			s.show(t, nth(n), !l[n].seen) // its own being seen changes nothing of what is ahead of it
			s.place(t, nth(n), n, seen, api.OK)
			s.show(t, nth(n), l[n].seen)
		}
		for _, y := range []api.Id{nth(5), {}, id(-1, 0, 0), id(least, greatest, least)} {
			s.place(t, y, 0, 0, api.ErrNone)
		}
	})
}

func TestList(t *testing.T) {
	l := filled(t, standing{a, false}, standing{b, false}, standing{c, false})
	if got := l.shelf.List(true); len(got) != 0 {
		t.Errorf("J6: none seen: %v", got)
	}
	if got := l.shelf.List(false); !slices.Equal(got, []api.Id{a, b, c}) {
		t.Errorf("J6: none seen: %v", got)
	}
	l.show(t, c, true)
	l.show(t, a, true)
	if got := l.shelf.List(true); !slices.Equal(got, []api.Id{a, c}) { // in their order, not in that of Show
		t.Errorf("J6: %v", got)
	}
	l.check(t)
}

// strange are ids that differ from one another in as little as may be; but for the last ones none of them is a right one.
func strange() []api.Id {
	return []api.Id{
		{}, id(0, 0, 1), id(0, 1, 0), id(1, 0, 0), id(0, 0, -1), id(0, -1, 0), id(-1, 0, 0), id(1, 17, 0), id(1, 1, 400001), id(1<<40+1, 1, 0),
		id(least, 0, 0), id(0, least, 0), id(0, 0, least), id(greatest, 0, 0), id(0, greatest, 0), id(0, 0, greatest), id(least, least, least), id(greatest, greatest, greatest),
		id(1<<32, 1, 0), id(1, 1<<32, 0), id(1, 1, 1<<32), id(1, 1, 0), id(1<<40, 16, 400000),
	}
}

func TestStrangeIds(t *testing.T) {
	l := fresh()
	for n, y := range strange() {
		l.place(t, y, 0, 0, api.ErrNone)
		l.show(t, y, true)
		l.put(t, n/2, y, n%3 > 0)
		l.put(t, 0, y, true)
		l.check(t)
	}
	for _, y := range strange() {
		l.show(t, y, true)
		l.check(t)
	}
	for _, y := range strange() {
		l.show(t, y, false)
		l.check(t)
	}
	one := filled(t, standing{api.Id{}, true})
	if y, e := one.shelf.Find(0); y != (api.Id{}) || e != api.OK {
		t.Errorf("J4: the empty id: %v %d", y, e)
	}
	one.put(t, 0, api.Id{}, true)
	one.put(t, 1, a, true)
	one.check(t)
}

func TestTwoShelves(t *testing.T) {
	one, other := fresh(), fresh()
	for n := range 700 {
		one.put(t, n/2, nth(n), n%2 == 0)
		if n%3 == 0 {
			other.put(t, 0, nth(n), n%2 == 1)
		}
	}
	one.check(t)
	other.check(t)
	for n := range 700 {
		one.show(t, nth(n), n%5 == 0)
		if n%100 == 0 {
			other.check(t)
		}
	}
	other.place(t, nth(1), 0, 0, api.ErrNone) // it is in the other one alone
	for n := range 300 {
		other.put(t, n, nth(3000+n), true)
	}
	one.check(t)
	other.check(t)
	one.place(t, nth(3000), 0, 0, api.ErrNone)
	fresh().check(t)
}

func TestListsAreNewMemory(t *testing.T) {
	for _, n := range []int{1, 3, 600} {
		l := fresh()
		for i := range n {
			l.put(t, i, nth(i), true)
		}
		first, second, all := l.shelf.List(true), l.shelf.List(true), l.shelf.List(false)
		kept := slices.Clone(all)
		whole := first[:cap(first)] // what stands behind its length, too
		for i := range whole {
			whole[i] = x
		}
		if !slices.Equal(second, kept) || !slices.Equal(all, kept) {
			t.Error("two lists share memory")
		}
		l.check(t)
		l.put(t, 0, x, true)
		l.show(t, nth(0), false)
		if !slices.Equal(second, kept) || !slices.Equal(all, kept) {
			t.Error("a list changed behind its answer")
		}
		l.check(t)
	}
}

func TestAnswersHangOnActsAlone(t *testing.T) {
	told := func() string {
		s := shelf.New()
		draw := rand.New(rand.NewSource(3))
		var all []any
		for n := range 1500 {
			all = append(all, s.Put(draw.Intn(n+2), nth(draw.Intn(1200)), n%3 > 0), s.Show(nth(draw.Intn(1200)), n%2 == 0))
		}
		for n := range 1200 {
			y, e := s.Find(n)
			m, k, f := s.Place(nth(n))
			all = append(all, y, e, m, k, f)
		}
		return fmt.Sprint(all, s.All(), s.Count(), s.List(false), s.List(true))
	}
	first := told()
	for range 5 {
		if told() != first {
			t.Fatal("the same acts, another answer")
		}
	}
}

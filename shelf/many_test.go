package shelf_test

import (
	"math/rand"
	"testing"

	"recension/api"
	"recension/shelf"
)

// ways tell where the next id is put, if n are there.
func ways() map[string]func(n int) int {
	draw := rand.New(rand.NewSource(1))
	near := rand.New(rand.NewSource(2))
	return map[string]func(n int) int{
		"at the beginning":         func(n int) int { return 0 },
		"at the end":               func(n int) int { return n },
		"in the middle":            func(n int) int { return n / 2 },
		"by turns at both ends":    func(n int) int { return n % 2 * n },
		"by turns in three places": func(n int) int { return n % 3 * n / 2 },
		"by turns in five places":  func(n int) int { return n % 5 * n / 4 },
		"ahead of the last one":    func(n int) int { return max(n-1, 0) },
		"behind the first one":     func(n int) int { return min(n, 1) },
		"anywhere":                 func(n int) int { return draw.Intn(n + 1) },
		"near one place":           func(n int) int { return min(n, 200+near.Intn(9)) },
	}
}

// TestManyActByAct has blocks parted again and again; behind each act every answer is held against the row.
func TestManyActByAct(t *testing.T) {
	for why, at := range ways() {
		t.Run(why, func(t *testing.T) {
			t.Parallel()
			l := fresh()
			for n := range 900 {
				l.put(t, at(n), nth(n), n%3 != 1)
				l.check(t)
				if n%7 == 0 {
					l.show(t, nth(n*5%(n+1)), n%2 == 0)
					l.check(t)
				}
			}
		})
	}
}

// TestManyDrawnActs draws right and wrong acts.
func TestManyDrawnActs(t *testing.T) {
	for seed := range int64(4) {
		draw := rand.New(rand.NewSource(10 + seed))
		l := fresh()
		for n := range 1400 {
			act(t, l, draw.Intn(8), draw.Intn(len(l.row)+3)-1, draw.Intn(1600))
			if n%3 == 0 {
				l.check(t)
			}
		}
		l.check(t)
	}
}

// act puts at, or shows, the nth id, as kind says.
func act(t *testing.T, l *both, kind, at, n int) {
	t.Helper()
	switch {
	case kind == 7:
		l.show(t, nth(n), true)
	case kind == 6:
		l.show(t, nth(n), false)
	default:
		l.put(t, at, nth(n), kind%2 == 0)
	}
}

// TestMany puts so many ids that there are many blocks, and holds the answers against the row now and then.
func TestMany(t *testing.T) {
	const count = 12000
	for why, at := range ways() {
		t.Run(why, func(t *testing.T) {
			t.Parallel()
			s := shelf.New()
			var l row
			for n := range count {
				k := at(n)
				if e := s.Put(k, nth(n), n%3 != 1); e != api.OK {
					t.Fatalf("J1: Put at %d, where %d are: %d", k, n, e)
				}
				l = append(l, standing{})
				copy(l[k+1:], l[k:])
				l[k] = standing{nth(n), n%3 != 1}
				if n%3000 == 1499 {
					(&both{s, l}).check(t)
				}
			}
			for n, x := range l {
				if e := s.Show(x.id, n%4 == 0); e != api.OK {
					t.Fatalf("J2: Show(%v): %d", x.id, e)
				}
				l[n].seen = n%4 == 0
			}
			(&both{s, l}).check(t)
			for _, x := range []int{0, count / 2, count - 1} {
				(&both{s, l}).put(t, x, l[x].id, true)
			}
			(&both{s, l}).put(t, count+1, nth(count), true)
		})
	}
}

// TestVeryManyEnd goes on to so many ids that a call whose time grew with their number would be felt.
func TestVeryManyEnd(t *testing.T) {
	const count = 150000
	s := shelf.New()
	for n := range count {
		if s.Put(n/2, nth(n), n%2 == 0) != api.OK { // even ones stand behind, in falling order, odd ones ahead, in rising order
			t.Fatalf("J1: the id %d", n)
		}
	}
	if s.All() != count || s.Count() != count/2 {
		t.Fatalf("J3: %d %d", s.All(), s.Count())
	}
	for k := range count / 2 {
		even, odd := nth(count-2-2*k), nth(2*k+1)
		if x, e := s.Find(k); x != even || e != api.OK {
			t.Fatalf("J4: Find(%d): %v %d", k, x, e)
		}
		if all, seen, e := s.Place(even); all != count/2+k || seen != k || e != api.OK {
			t.Fatalf("J5: Place(%v): %d %d %d", even, all, seen, e)
		}
		if all, seen, e := s.Place(odd); all != k || seen != 0 || e != api.OK {
			t.Fatalf("J5: Place(%v): %d %d %d", odd, all, seen, e)
		}
	}
}

// FuzzShelf makes acts of bytes, three for each; there are so many ids ahead of them that blocks are parted soon.
func FuzzShelf(f *testing.F) {
	f.Add(0, []byte("\x00\x00\x01\x02\x00\x01\x06\x00\x01"))
	f.Add(250, []byte("\x01\x7f\xff\x02\x7f\xfe\x00\x00\xfd\x07\x01\xff\x06\x02\x05\x03\xff\x80"))
	f.Add(500, []byte("\x00\x10\xf0\x01\x10\xf1\x02\x10\xf2\x03\x10\xf3\x04\x10\xf4"))
	f.Fuzz(func(t *testing.T, n int, acts []byte) {
		l := fresh()
		for i := range max(0, min(n, 600)) {
			l.put(t, i, nth(1000+i), i%2 == 0)
		}
		for ; len(acts) >= 3; acts = acts[3:] {
			act(t, l, int(acts[0]%8), int(acts[1])*(len(l.row)+2)/255-1, int(acts[2]))
		}
		l.check(t)
	})
}

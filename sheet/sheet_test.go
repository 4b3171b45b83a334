package sheet_test

import (
	"fmt"
	"math/rand"
	"slices"
	"strings"
	"testing"

	"recension/api"
	"recension/sheet"
)

var none = id(0, 0, 0)

func stampOf(t, r int) api.Stamp { return api.Stamp{T: t, R: r} }

func wantText(t *testing.T, s *sheet.Sheet, why, want string) {
	t.Helper()
	if got := s.Text(); got != want || s.Len() != len([]rune(want)) {
		t.Errorf("K4: %s: %q, %d seen, not %q", why, got, s.Len(), want)
	}
}

func TestExample(t *testing.T) {
	s := sheet.New()
	if e := s.Add(run(none, id(1, 1, 0), "ab")); e != api.OK {
		t.Errorf("K1: %d", e)
	}
	wantText(t, s, "added", "")
	s.Set(stampOf(1, 1), true)
	wantText(t, s, "set on", "ab")
	if e := s.Take(id(1, 1, 0), true); e != api.OK {
		t.Errorf("K3: %d", e)
	}
	wantText(t, s, "taken", "b")
	if x, e := s.Behind(1); x != id(1, 1, 1) || e != api.OK {
		t.Errorf("K6: %v %d", x, e)
	}
	if x, e := s.At(0); x != id(1, 1, 1) || e != api.OK {
		t.Errorf("K5: %v %d", x, e)
	}
}

func TestWithoutElements(t *testing.T) {
	s := sheet.New()
	if s == nil {
		t.Fatal("K1: no sheet")
	}
	empty := func(why string) {
		t.Helper()
		wantText(t, s, why, "")
		for _, k := range []int{least, least + 1, -2, -1, 0, 1, 2, greatest - 1, greatest} {
			if x, e := s.At(k); x != none || e != api.ErrIndex {
				t.Errorf("K5: %s: At(%d): %v %d", why, k, x, e)
			}
			want := api.ErrIndex
			if k == 0 {
				want = api.OK
			}
			if x, e := s.Behind(k); x != none || e != want {
				t.Errorf("K6: %s: Behind(%d): %v %d", why, k, x, e)
			}
		}
	}
	empty("new")
	for _, x := range []api.Id{none, id(1, 1, 0), id(0, 0, 1), id(0, 0, -1), id(least, least, least), id(greatest, greatest, greatest)} {
		for _, gone := range []bool{true, false} {
			if e := s.Take(x, gone); e != api.ErrNone {
				t.Errorf("K3: Take(%v, %t): %d", x, gone, e)
			}
		}
	}
	empty("taken")
	for _, x := range []api.Stamp{{}, {T: 1, R: 1}, {T: least, R: greatest}} {
		s.Set(x, true)
		empty("set on")
		s.Set(x, false)
		s.Set(x, false)
		empty("set off")
	}
	for _, r := range []api.Run{run(none, id(1, 1, 0), ""), run(none, id(1, 1, 0), "\xff"), run(id(1, 1, 0), id(1, 1, 0), "a"), run(none, none, "a")} {
		if s.Add(r) == api.OK {
			t.Errorf("K1: Add(%s) is OK", short(r))
		}
		empty("refused")
	}
}

// noTexts are not of code points.
func noTexts() []string {
	return []string{"\xff", "\x80", "a\x80", "\xc3", "\xc3a", "é\xc3", "\xc0\x80", "\xed\xa0\x80", "\xed\xbf\xbf", "\xf4\x90\x80\x80", "\xf0\x9f\x98", "ab\xfec", "\ufffd\xff"}
}

// TestAddErrors has one error fit, then two, and three.
func TestAddErrors(t *testing.T) {
	there := []api.Run{run(none, id(5, 1, 10), "abc"), run(id(5, 1, 11), id(6, 2, 0), "d")}
	texts := append(noTexts(), "")
	gone := []api.Id{id(9, 1, 0), id(5, 1, 9), id(5, 1, 13), id(5, 2, 10), id(4, 1, 10), id(0, 0, 1), id(0, 0, -1), id(0, 1, 0), id(1, 0, 0)}
	twice := []struct {
		x    api.Id
		text string
	}{
		{id(5, 1, 10), "x"}, {id(5, 1, 11), "x"}, {id(5, 1, 12), "x"}, {id(6, 2, 0), "xyz"}, // the first one is there
		{id(5, 1, 9), "xyzxyz"}, {id(5, 1, 8), "xyz"}, {id(6, 2, -1), "xyz"}, {id(6, 2, -2), "xxyz"}, // a middle one, the last one
		{id(6, 2, -1), "xy"}, {id(5, 1, 7), "xyzü"}, {id(5, 1, 9), "xy"},
		{none, "x"}, {none, "xyz"}, {id(0, 0, -1), "xy"}, {id(0, 0, -1), "xyz"}, {id(0, 0, -2), "xyz"}, // the empty id
	}
	b := filled(t, there...)
	want := func(r api.Run, want api.Errno) {
		t.Helper()
		if e := b.sheet.Add(r); e != want {
			t.Errorf("K1: Add(%s): %d, not %d", short(r), e, want)
		}
		b.add(t, r)
	}
	for _, text := range texts {
		want(run(none, id(7, 1, 0), text), api.ErrText)
		want(run(id(6, 2, 0), id(7, 1, 0), text), api.ErrText)
		for _, x := range gone {
			want(run(x, id(7, 1, 0), text), api.ErrText)
			want(run(x, id(5, 1, 10), text), api.ErrText)
			want(run(x, none, text), api.ErrText)
		}
		for _, y := range twice {
			want(run(none, y.x, text), api.ErrText)
			want(run(id(5, 1, 12), y.x, text), api.ErrText)
		}
	}
	for _, x := range gone {
		want(run(x, id(7, 1, 0), "x"), api.ErrNone)
		for _, y := range twice {
			want(run(x, y.x, y.text), api.ErrNone)
		}
	}
	for _, y := range twice {
		for _, after := range []api.Id{none, id(5, 1, 10), id(5, 1, 11), id(5, 1, 12), id(6, 2, 0)} {
			want(run(after, y.x, y.text), api.ErrTwice)
		}
	}
	b.check(t)
	for _, y := range []api.Id{id(5, 1, 7), id(5, 1, 13), id(6, 2, -3), id(6, 2, 1), id(0, 0, 1), id(0, 0, -3)} { // close by, but not there
		b.take(t, y, true)
		b.add(t, run(id(5, 1, 12), y, "xyz"))
		b.set(y.Stamp, true)
		b.check(t)
	}
	wantText(t, b.sheet, "what was refused is not there", "abdcxyzxyzxyzxyzxyzxyz")
}

// TestBehindTheVeryRun has a run stand behind each of its own elements, none of which is there yet.
func TestBehindTheVeryRun(t *testing.T) {
	b := filled(t, run(none, id(1, 1, 0), "ab"))
	for n := range 3 {
		r := run(id(2, 2, n), id(2, 2, 0), "xyz")
		if e := b.sheet.Add(r); e != api.ErrNone {
			t.Errorf("K1: Add(%s): %d", short(r), e)
		}
		b.add(t, r)
	}
	b.set(stampOf(2, 2), true)
	b.check(t)
	for n := range 3 {
		b.take(t, id(2, 2, n), true)
	}
	b.add(t, run(id(1, 1, 1), id(2, 2, 0), "xyz"))
	b.check(t)
	wantText(t, b.sheet, "added at last", "abxyz")
	b.add(t, run(id(2, 2, 1), id(2, 2, 3), "w")) // behind one of its stamp
	b.add(t, run(id(2, 2, 3), id(2, 2, 3), "v")) // behind itself, which is there: twice
	b.check(t)
	wantText(t, b.sheet, "behind its stamp's", "abxywz")
}

// TestEmptyId goes by the runs that come to the empty id and those that come to its neighbours alone.
func TestEmptyId(t *testing.T) {
	for from := -4; from <= 3; from++ {
		for n := 1; n <= 5; n++ {
			b := filled(t, run(none, id(1, 1, 0), "ab"))
			want := api.OK
			if from <= 0 && from+n > 0 {
				want = api.ErrTwice
			}
			r := run(id(1, 1, 0), id(0, 0, from), strings.Repeat("x", n))
			if e := sheetWith(t, run(none, id(1, 1, 0), "ab")).Add(r); e != want {
				t.Errorf("K1: Add(%s): %d, not %d", short(r), e, want)
			}
			b.add(t, r)
			b.set(stampOf(0, 0), true)
			b.check(t)
			b.take(t, none, true)
			b.take(t, id(0, 0, from), true)
			b.check(t)
			b.add(t, run(none, id(0, 0, 9), "z")) // behind the beginning, whatever of this stamp is there
			b.check(t)
		}
	}
}

// sheetWith is a sheet with these runs.
func sheetWith(t *testing.T, l ...api.Run) *sheet.Sheet {
	t.Helper()
	s := sheet.New()
	for _, r := range l {
		if e := s.Add(r); e != api.OK {
			t.Fatalf("K1: Add(%s): %d", short(r), e)
		}
	}
	return s
}

// TestRoundTheGreatestInt has runs whose numbers go on with the least int.
func TestRoundTheGreatestInt(t *testing.T) {
	for before := range 4 {
		b := filled(t, run(none, id(1, 1, greatest-before), "abcd"))
		wantText(t, b.sheet, "round the greatest int", "abcd")
		var names []api.Id
		for n := range 4 {
			x := id(1, 1, greatest-before+n)
			if n > before {
				x = id(1, 1, least+n-before-1)
			}
			names = append(names, x)
			if y, e := b.sheet.At(n); y != x || e != api.OK {
				t.Errorf("K5: At(%d), from %d on: %v %d", n, greatest-before, y, e)
			}
		}
		for n, x := range names {
			for _, r := range []api.Run{run(none, x, "x"), run(id(1, 1, least), x, "xyz"), run(x, id(1, 1, least), "x"), run(none, id(1, 1, x.I-1), "xy")} {
				b.add(t, r)
			}
			b.add(t, run(x, id(2, 1, greatest-n), "xyz"))
			b.take(t, x, n%2 == 0)
			b.check(t)
		}
		b.set(stampOf(2, 1), true)
		b.check(t)
	}
	b := filled(t, run(none, id(0, 0, greatest), "ab"), run(id(0, 0, least), id(0, 0, least+1), "c")) // the empty id is far
	wantText(t, b.sheet, "round the greatest int", "abc")
}

// TestOrder has siblings, and what stands behind them, come in each order that lets it come.
func TestOrder(t *testing.T) {
	for _, x := range []struct {
		why  string
		l    []api.Run
		want string
	}{
		{"layer 9's example", []api.Run{run(none, id(1, 1, 0), "ab"), run(id(1, 1, 0), id(2, 2, 0), "X"), run(id(1, 1, 0), id(3, 1, 0), "Y")}, "aYXb"},
		{"at the beginning", []api.Run{run(none, id(1, 1, 0), "a"), run(none, id(3, 1, 0), "c"), run(none, id(2, 1, 0), "b")}, "cba"},
		{"by replicas", []api.Run{run(none, id(1, 2, 0), "a"), run(none, id(1, 3, 0), "c"), run(none, id(1, 1, 0), "b")}, "cab"},
		{"by numbers", []api.Run{run(none, id(1, 1, 7), "a"), run(none, id(1, 1, -7), "c"), run(none, id(1, 1, 9), "b")}, "bac"},
		{"long ones between", []api.Run{run(none, id(3, 1, 0), "abc"), run(none, id(2, 1, 0), "de"), run(none, id(1, 1, 0), "f")}, "abcdef"},
		{"old ones behind a newer one", []api.Run{run(none, id(5, 1, 0), "a"), run(id(5, 1, 0), id(1, 1, 0), "b"), run(id(1, 1, 0), id(2, 1, 0), "c"), run(none, id(4, 1, 0), "d")}, "abcd"},
		{"new ones behind an older one", []api.Run{run(none, id(1, 1, 0), "a"), run(id(1, 1, 0), id(9, 1, 0), "b"), run(none, id(2, 1, 0), "c"), run(id(9, 1, 0), id(8, 1, 0), "d")}, "cabd"},
		{"behind a middle one", []api.Run{run(none, id(1, 1, 0), "abc"), run(id(1, 1, 1), id(1, 1, 5), "d"), run(id(1, 1, 1), id(0, 1, 0), "e")}, "abdce"},
		{"one by one", []api.Run{run(none, id(4, 1, 0), "a"), run(id(4, 1, 0), id(3, 1, 0), "b"), run(id(3, 1, 0), id(2, 1, 0), "c"), run(id(4, 1, 0), id(2, 1, 1), "d"), run(none, id(2, 2, 0), "e")}, "abcde"},
		{"behind the last one of several", []api.Run{run(none, id(2, 1, 0), "ab"), run(none, id(3, 1, 0), "c"), run(id(2, 1, 1), id(4, 1, 0), "d"), run(id(2, 1, 0), id(1, 1, 0), "e")}, "cabde"},
	} {
		done := 0
		ordersOf(x.l, func(l []api.Run) {
			if !mayCome(l) {
				return
			}
			done++
			wantText(t, filled(t, l...).sheet, x.why, x.want)
		})
		if done == 0 {
			t.Errorf("%s: no order", x.why)
		}
	}
}

// ordersOf calls f with l in each order.
func ordersOf(l []api.Run, f func(l []api.Run)) {
	var from func(n int)
	from = func(n int) {
		if n == len(l) {
			f(slices.Clone(l))
		}
		for i := n; i < len(l); i++ {
			l[n], l[i] = l[i], l[n]
			from(n + 1)
			l[n], l[i] = l[i], l[n]
		}
	}
	from(0)
}

// mayCome tells whether each of l stands behind what comes ahead of it.
func mayCome(l []api.Run) bool {
	there := []api.Id{none}
	for _, r := range l {
		if !slices.Contains(there, r.After) {
			return false
		}
		there = append(there, namesOf(r)...)
	}
	return true
}

// TestOneStamp has runs of one stamp, all of which come and go at once.
func TestOneStamp(t *testing.T) {
	b := fresh()
	one := stampOf(3, 1)
	b.add(t, run(none, id(3, 1, 0), "ab"))
	b.add(t, run(id(3, 1, 0), id(3, 1, 10), "cd"))
	b.add(t, run(none, id(2, 1, 0), "x"))
	b.set(one, true)
	wantText(t, b.sheet, "on", "acdb")
	b.add(t, run(id(3, 1, 0), id(3, 1, 5), "e"))
	b.add(t, run(none, id(3, 1, -5), "f"))
	b.check(t)
	wantText(t, b.sheet, "more of it", "acdebf")
	b.set(one, false)
	b.check(t)
	wantText(t, b.sheet, "off", "")
	b.set(stampOf(2, 1), true)
	b.check(t)
	wantText(t, b.sheet, "the other one", "x")
	b.set(one, true)
	b.take(t, id(3, 1, 10), true)
	b.check(t)
	wantText(t, b.sheet, "both", "adebfx")
}

// TestSet goes by short rows of on and off, some ahead of Add and some behind it.
func TestSet(t *testing.T) {
	one := stampOf(1, 1)
	near := []api.Stamp{{}, {T: 1}, {R: 1}, {T: 1, R: 2}, {T: 2, R: 1}, {T: -1, R: -1}, {T: 1 << 32, R: 1}, {T: least, R: greatest}} // of which no element is
	for length := range 6 {
		for bits := range 1 << length {
			for ahead := range length + 1 {
				b := fresh()
				sum := 0
				act := func(n int) {
					on := bits>>n&1 == 1
					b.set(one, on)
					b.set(near[n], on)
					if sum--; on {
						sum += 2
					}
					b.check(t)
				}
				for n := range ahead {
					act(n)
				}
				b.add(t, run(none, id(1, 1, 0), "ab"))
				b.check(t)
				for n := ahead; n < length; n++ {
					act(n)
				}
				want := ""
				if sum > 0 {
					want = "ab"
				}
				wantText(t, b.sheet, fmt.Sprintf("%d of %d sets, the bits of %b, ahead of Add", ahead, length, bits), want)
			}
		}
	}
}

func TestSetOnTwiceAndOffOnce(t *testing.T) {
	s := sheetWith(t, run(none, id(1, 1, 0), "ab"), run(none, id(2, 1, 0), "c"))
	one := stampOf(1, 1)
	for _, x := range []struct {
		on   bool
		want string
	}{{true, "ab"}, {true, "ab"}, {false, "ab"}, {false, ""}, {false, ""}, {true, ""}, {true, "ab"}} {
		s.Set(one, x.on)
		wantText(t, s, "on and off", x.want)
	}
	s = sheet.New()
	for _, on := range []bool{false, true} { // off before on, and both before Add
		s.Set(one, on)
	}
	if e := s.Add(run(none, id(1, 1, 0), "ab")); e != api.OK {
		t.Fatalf("K1: %d", e)
	}
	wantText(t, s, "as often off as on", "")
	s.Set(one, true)
	wantText(t, s, "once more on", "ab")
}

// TestTake goes by short rows of taken and returned.
func TestTake(t *testing.T) {
	for length := range 7 {
		for bits := range 1 << length {
			for on := range 2 {
				b := fresh()
				b.add(t, run(none, id(1, 1, 0), "abc"))
				b.set(stampOf(1, 1), on == 1)
				sum := 0
				for n := range length {
					gone := bits>>n&1 == 1
					b.take(t, id(1, 1, 1), gone)
					if sum--; gone {
						sum += 2
					}
					b.check(t)
				}
				b.set(stampOf(1, 1), true)
				want := []string{"", "abc"}[on]
				if on == 1 && sum > 0 {
					want = "ac"
				}
				wantText(t, b.sheet, fmt.Sprintf("%d times taken or returned, the bits of %b", length, bits), want)
			}
		}
	}
}

func TestTakeTwiceAndReturnOnce(t *testing.T) {
	s := sheetWith(t, run(none, id(1, 1, 0), "abc"))
	s.Set(stampOf(1, 1), true)
	for _, x := range []struct {
		i    int
		gone bool
		want string
	}{
		{1, true, "ac"}, {1, true, "ac"}, {1, false, "ac"}, {1, false, "abc"}, // twice taken, once returned
		{0, false, "abc"}, {0, true, "abc"}, {0, true, "bc"}, {0, false, "abc"}, // returned before it is taken
		{2, true, "ab"}, {0, true, "b"}, {1, true, ""}, {2, false, "c"},
	} {
		if e := s.Take(id(1, 1, x.i), x.gone); e != api.OK {
			t.Errorf("K3: Take(%d, %t): %d", x.i, x.gone, e)
		}
		wantText(t, s, "taken and returned", x.want)
	}
}

// TestTakeOfWhatIsNotThere has nothing wait for what comes later.
func TestTakeOfWhatIsNotThere(t *testing.T) {
	b := filled(t, run(none, id(1, 1, 1), "abc"))
	for _, x := range append(strange(), none, id(1, 1, 0), id(1, 1, 4), id(2, 1, 1), id(1, 2, 1), id(1, 1, -1)) {
		for range 2 {
			b.take(t, x, true)
		}
		b.take(t, x, false)
		b.check(t)
	}
	b.add(t, run(none, id(1, 1, 4), "d"))
	b.check(t)
	wantText(t, b.sheet, "added behind Take", "dabc")
}

func TestCodePoints(t *testing.T) {
	all := "a\x00\x7f\u0080é\u07ff\u0800€\ud7ff\ue000\ufffd\uffff\U00010000😀\U0010ffff\u0301\r\n"
	b := filled(t, run(none, id(1, 1, 0), all))
	wantText(t, b.sheet, "of one to four bytes", all)
	b.add(t, run(id(1, 1, 4), id(2, 1, 0), "😀é"))
	b.set(stampOf(2, 1), true)
	b.check(t)
	for n := range []rune(all) {
		one := filled(t, run(none, id(1, 1, 0), string([]rune(all)[n])))
		one.checkTheorem(t)
		b.take(t, id(1, 1, n), n%3 == 0)
		b.check(t)
	}
	b.checkTheorem(t)
	for _, text := range noTexts() {
		b.add(t, run(none, id(3, 1, 0), text))
		b.add(t, run(none, id(3, 1, 0), all+text+all))
	}
	b.check(t)
}

// TestPlaces has unseen elements ahead of seen ones, between them and behind them: of six elements each way to be seen or not, by stamps and by Take.
func TestPlaces(t *testing.T) {
	const count = 6
	for bits := range 1 << count {
		for taken := range 2 {
			b := fresh()
			after := none
			for n := range count {
				x := id(n+1, 1, n)
				b.add(t, run(after, x, string(rune('a'+n))))
				after = x
				if seen := bits>>n&1 == 1; taken == 1 {
					b.set(x.Stamp, true)
					b.take(t, x, !seen)
				} else {
					b.set(x.Stamp, seen)
				}
			}
			b.check(t)
			b.checkTheorem(t)
		}
	}
	b := filled(t, run(none, id(1, 1, 0), "abcdef"))
	for _, n := range []int{0, 2, 3, 5} {
		b.take(t, id(1, 1, n), true)
	}
	wantText(t, b.sheet, "two of six", "be")
	for _, x := range []struct {
		k            int
		at, behind   api.Id
		eAt, eBehind api.Errno
	}{
		{least, none, none, api.ErrIndex, api.ErrIndex},
		{-1, none, none, api.ErrIndex, api.ErrIndex},
		{0, id(1, 1, 1), none, api.OK, api.OK},
		{1, id(1, 1, 4), id(1, 1, 1), api.OK, api.OK},
		{2, none, id(1, 1, 4), api.ErrIndex, api.OK},
		{3, none, none, api.ErrIndex, api.ErrIndex},
		{6, none, none, api.ErrIndex, api.ErrIndex},
		{greatest, none, none, api.ErrIndex, api.ErrIndex},
	} {
		b.at(t, x.k, x.at, x.eAt)
		b.behind(t, x.k, x.behind, x.eBehind)
	}
}

// strange are ids that differ from one another in as little as may be; none of them is a right one.
func strange() []api.Id {
	return []api.Id{
		id(0, 0, 1), id(0, 1, 0), id(1, 0, 0), id(0, 0, -1), id(0, -1, 0), id(-1, 0, 0), id(1, 17, 0), id(1, 1, 400001), id(1<<40+1, 1, 0),
		id(least, 0, 0), id(0, least, 0), id(0, 0, least), id(greatest, 0, 0), id(0, greatest, 0), id(0, 0, greatest), id(least, least, least), id(greatest, greatest, greatest),
		id(1<<32, 1, 0), id(1, 1<<32, 0), id(1, 1, 1<<32),
	}
}

func TestStrangeIds(t *testing.T) {
	draw := rand.New(rand.NewSource(4))
	for range 60 {
		b := fresh()
		there := []api.Id{none}
		l := strange()
		draw.Shuffle(len(l), func(i, k int) { l[i], l[k] = l[k], l[i] })
		for _, x := range l {
			r := run(there[draw.Intn(len(there))], x, []string{"x", "é", "yz"}[draw.Intn(3)])
			b.add(t, r)
			if _, is := b.book.taken[x]; is {
				there = append(there, x)
			}
			b.set(x.Stamp, draw.Intn(4) > 0)
			b.check(t)
		}
		for _, x := range l {
			b.take(t, x, draw.Intn(3) > 0)
			b.set(x.Stamp, true)
			b.check(t)
		}
	}
}

func TestTwoSheets(t *testing.T) {
	one, other := fresh(), fresh()
	one.add(t, run(none, id(1, 1, 0), "ab"))
	one.set(stampOf(1, 1), true)
	other.check(t)
	other.take(t, id(1, 1, 0), true)
	other.add(t, run(id(1, 1, 0), id(2, 1, 0), "x"))
	other.add(t, run(none, id(1, 1, 0), "c"))
	one.check(t)
	other.check(t)
	one.take(t, id(1, 1, 1), true)
	other.set(stampOf(1, 1), true)
	one.check(t)
	other.check(t)
	other.take(t, id(1, 1, 0), true)
	other.add(t, run(id(1, 1, 0), id(1, 1, 1), "de"))
	one.set(stampOf(1, 1), true)
	one.set(stampOf(1, 1), false)
	other.set(stampOf(1, 1), false)
	one.check(t)
	other.check(t)
	wantText(t, one.sheet, "one", "a")
	wantText(t, other.sheet, "the other", "")
	wantText(t, sheet.New(), "a third one", "")
}

func TestAnswersHangOnActsAlone(t *testing.T) {
	told := func() string {
		s := sheet.New()
		draw := rand.New(rand.NewSource(5))
		var all []any
		for range 600 {
			x := id(1+draw.Intn(60), 1+draw.Intn(3), draw.Intn(5))
			all = append(all, s.Add(run(id(1+draw.Intn(60), 1+draw.Intn(3), draw.Intn(5)), x, "aé")), s.Add(run(none, x, "b")), s.Take(x, draw.Intn(2) == 0))
			s.Set(x.Stamp, draw.Intn(3) > 0)
			y, e := s.At(draw.Intn(s.Len() + 1))
			z, f := s.Behind(draw.Intn(s.Len() + 1))
			all = append(all, y, e, z, f, s.Text())
		}
		return fmt.Sprint(all)
	}
	first := told()
	for range 5 {
		if told() != first {
			t.Fatal("the same acts, another answer")
		}
	}
}

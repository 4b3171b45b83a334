package stamp_test

import (
	"fmt"
	"math"
	"math/big"
	"slices"
	"strings"
	"testing"

	"recension/api"
	"recension/stamp"
)

const (
	lastT = 1 << 40 // as the chapter has them, not as api does
	lastR = 16
	lastI = 400000
)

// times, replicas and places are numbers in order, at the edges of what T, R and I may be.
func times() []int {
	return []int{math.MinInt, -lastT, -1, 0, 1, 2, 3, 127, lastT - 1, lastT, lastT + 1, 2 * lastT, math.MaxInt}
}

func replicas() []int {
	return []int{math.MinInt, -16, -1, 0, 1, 2, 9, 10, lastR - 1, lastR, lastR + 1, 160, math.MaxInt}
}

func places() []int {
	return []int{math.MinInt, -lastI, -1, 0, 1, 2, 99999, lastI - 1, lastI, lastI + 1, 4 * lastI, math.MaxInt}
}

// stampOf and idOf are what is named by these numbers.
func stampOf(t, r int) api.Stamp { return api.Stamp{T: t, R: r} }

func idOf(t, r, i int) api.Id { return api.Id{Stamp: stampOf(t, r), I: i} }

// stamps are stamps in order, right or not.
func stamps() []api.Stamp {
	var l []api.Stamp
	for _, t := range times() {
		for _, r := range replicas() {
			l = append(l, stampOf(t, r))
		}
	}
	return l
}

// ids are ids in order, right or not.
func ids() []api.Id {
	var l []api.Id
	for _, s := range stamps() {
		for _, i := range places() {
			l = append(l, api.Id{Stamp: s, I: i})
		}
	}
	return l
}

// rightIds are ids in order, all of them right.
func rightIds() []api.Id {
	var l []api.Id
	for _, t := range []int{1, 2, 9, 10, 11, 1000, lastT - 1, lastT} {
		for _, r := range []int{1, 2, 9, 10, 15, lastR} {
			for _, i := range []int{0, 1, 9, 10, 100, 399999, lastI} {
				l = append(l, idOf(t, r, i))
			}
		}
	}
	return l
}

// chaos is n numbers without a pattern, the same ones for the same seed.
func chaos(seed uint64, n int) []uint64 {
	l := make([]uint64, n)
	for i := range l {
		seed ^= seed << 13
		seed ^= seed >> 7
		seed ^= seed << 17
		l[i] = seed
	}
	return l
}

// drawn is a vector of n numbers from a few, without a pattern.
func drawn(seed uint64, n int, few ...int) []int {
	v := []int{}
	for _, c := range chaos(seed, n) {
		v = append(v, few[c>>20%uint64(len(few))])
	}
	return v
}

// short are all vectors of at most three of the numbers -1, 0, 1 and 2.
func short() [][]int {
	all := [][]int{nil}
	for i := 0; i < len(all) && len(all[i]) < 3; i++ {
		for n := -1; n <= 2; n++ {
			all = append(all, append(slices.Clone(all[i]), n))
		}
	}
	return all
}

// vectors are lists of numbers of all kinds: short and long ones, plain or not, with numbers below 0 and great ones.
func vectors() [][]int {
	all := append(short(), []int{}, make([]int, 15), make([]int, 16), make([]int, 17), []int{math.MaxInt, math.MinInt}, []int{math.MinInt, 0, math.MaxInt, 0})
	for n := range 20 {
		seed := uint64(n + 1)
		all = append(all, drawn(seed, n, 0, 1, 2), drawn(seed, n, -1, 0, 1), drawn(seed, n, 0, 0, 0, 5), drawn(seed, n, lastT, lastT+1, 3), append(make([]int, n), 1))
	}
	return append(all, drawn(7, 40, 0, 1), drawn(8, 300, -7, 0, 7), append(drawn(9, 16, 1, 2), 0))
}

// room is what padded vectors have: more numbers than any vector of these tests.
const room = 310

// padded is v with as many noughts behind it as there is room for: vectors that tell the same are the same, padded.
func padded(v []int) [room]int {
	var p [room]int
	for i, n := range v {
		p[i] = n
	}
	return p
}

// checkVector holds a vector against what it is to tell, plainly.
func checkVector(t *testing.T, what string, got []int, want [room]int) {
	t.Helper()
	if padded(got) != want {
		t.Errorf("%s: %v", what, got)
	}
	if n := len(got); n > 0 && got[n-1] == 0 {
		t.Errorf("%s: %v isn't plain", what, got)
	}
}

// sign is where the place i is from the place k.
func sign(i, k int) int {
	switch {
	case i < k:
		return -1
	case i > k:
		return 1
	}
	return 0
}

func TestCmp(t *testing.T) {
	for _, x := range []struct {
		a, b api.Stamp
		want int
	}{
		{stampOf(1, 2), stampOf(2, 1), -1}, // by T ahead of R
		{stampOf(2, 1), stampOf(1, 2), 1},
		{stampOf(3, 1), stampOf(3, 2), -1}, // alike in T
		{stampOf(3, 2), stampOf(3, 1), 1},
		{stampOf(3, 2), stampOf(4, 2), -1}, // alike in R
		{stampOf(4, 2), stampOf(3, 2), 1},
		{stampOf(4, 2), stampOf(4, 2), 0},
		{api.Stamp{}, stampOf(1, 1), -1},
		{api.Stamp{}, api.Stamp{}, 0},
		{stampOf(math.MinInt, 1), stampOf(math.MaxInt, 1), -1}, // what lies between is no int
		{stampOf(1, math.MaxInt), stampOf(1, math.MinInt), 1},
	} {
		if got := stamp.Cmp(x.a, x.b); got != x.want {
			t.Errorf("E1: Cmp(%v, %v): %d, not %d", x.a, x.b, got, x.want)
		}
	}
	all := stamps()
	for i, a := range all {
		for k, b := range all {
			if got := stamp.Cmp(a, b); got != sign(i, k) {
				t.Errorf("E1: Cmp(%v, %v): %d, not %d", a, b, got, sign(i, k))
			}
		}
	}
}

func TestCmpId(t *testing.T) {
	for _, x := range []struct {
		a, b api.Id
		want int
	}{
		{idOf(1, 2, 9), idOf(2, 1, 0), -1},
		{idOf(2, 1, 0), idOf(1, 2, 9), 1},
		{idOf(3, 1, 9), idOf(3, 2, 0), -1}, // by R ahead of I
		{idOf(3, 2, 0), idOf(3, 1, 9), 1},
		{idOf(3, 2, 0), idOf(3, 2, 1), -1}, // alike but for I
		{idOf(3, 2, 1), idOf(3, 2, 0), 1},
		{idOf(3, 2, -1), idOf(3, 2, 0), -1},
		{idOf(3, 2, 1), idOf(3, 2, 1), 0},
		{api.Id{}, idOf(1, 1, 0), -1},
		{api.Id{}, api.Id{}, 0},
		{idOf(1, 1, math.MinInt), idOf(1, 1, math.MaxInt), -1},
	} {
		if got := stamp.CmpId(x.a, x.b); got != x.want {
			t.Errorf("E1: CmpId(%v, %v): %d, not %d", x.a, x.b, got, x.want)
		}
	}
	all := ids()
	for i, a := range all {
		for k, b := range all {
			if got := stamp.CmpId(a, b); got != sign(i, k) {
				t.Fatalf("E1: CmpId(%v, %v): %d, not %d", a, b, got, sign(i, k))
			}
		}
	}
}

func TestLimits(t *testing.T) {
	if api.MaxClock != lastT || api.MaxReplicas != lastR || api.ErrArg != 1 {
		t.Error("E2, E6: the limits or ErrArg aren't the document's")
	}
}

// fits tells whether n is from least to most: it is, if it stands in order between them.
func fits(n, least, most int) bool { return slices.IsSorted([]int{least, n, most}) }

// rightIn tells whether x is right, by the chapter's limits.
func rightIn(x api.Id) bool {
	return fits(x.T, 1, lastT) && fits(x.R, 1, lastR) && fits(x.I, 0, lastI)
}

func TestRight(t *testing.T) {
	for s, want := range map[api.Stamp]bool{
		stampOf(1, 1): true, stampOf(lastT, 1): true, stampOf(1, lastR): true, stampOf(lastT, lastR): true, stampOf(7, 3): true,
		stampOf(0, 1): false, stampOf(-1, 1): false, stampOf(lastT+1, 1): false, stampOf(1, 0): false, stampOf(1, -1): false, stampOf(1, lastR+1): false,
		{}: false, stampOf(0, 0): false, stampOf(lastT+1, lastR+1): false, stampOf(lastR, lastT): false,
	} {
		if got := stamp.Right(s); got != want {
			t.Errorf("E2: Right(%v): %v", s, got)
		}
	}
	for _, s := range stamps() {
		if got, want := stamp.Right(s), rightIn(api.Id{Stamp: s}); got != want {
			t.Errorf("E2: Right(%v): %v", s, got)
		}
	}
}

func TestRightId(t *testing.T) {
	for x, want := range map[api.Id]bool{
		idOf(1, 1, 0): true, idOf(1, 1, lastI): true, idOf(lastT, lastR, lastI): true, idOf(3, 2, 1): true, idOf(1, 1, 399999): true,
		idOf(1, 1, -1): false, idOf(1, 1, lastI+1): false, idOf(1, 1, math.MinInt): false, idOf(1, 1, math.MaxInt): false,
		idOf(0, 1, 0): false, idOf(1, 0, 0): false, idOf(lastT+1, 1, 0): false, idOf(1, lastR+1, 0): false, {}: false,
	} {
		if got := stamp.RightId(x); got != want {
			t.Errorf("E2: RightId(%v): %v", x, got)
		}
	}
	for _, x := range ids() {
		if got := stamp.RightId(x); got != rightIn(x) {
			t.Errorf("E2: RightId(%v): %v", x, got)
		}
	}
}

func TestText(t *testing.T) {
	for x, want := range map[api.Id]string{
		idOf(3, 1, 0): "3.1.0", idOf(1, 1, 0): "1.1.0", idOf(12, 10, 345): "12.10.345", idOf(lastT, lastR, lastI): "1099511627776.16.400000",
		{}: "", idOf(0, 1, 0): "", idOf(1, 0, 0): "", idOf(1, 1, -1): "", idOf(lastT+1, 1, 0): "", idOf(1, lastR+1, 0): "", idOf(1, 1, lastI+1): "",
	} {
		if got := stamp.Text(x); got != want {
			t.Errorf("E3: Text(%v): %q, not %q", x, got, want)
		}
	}
	for _, x := range append(ids(), rightIds()...) {
		want := ""
		if rightIn(x) {
			want = fmt.Sprintf("%d.%d.%d", x.T, x.R, x.I)
		}
		if got := stamp.Text(x); got != want {
			t.Errorf("E3: Text(%v): %q, not %q", x, got, want)
		}
	}
}

// number reads digits, by the rule R5 and not as the program does: none is a nought ahead, and the number is at most `most`.
func number(s string, most int64) (int, bool) {
	if s == "" || strings.Trim(s, "0123456789") != "" || len(s) > 1 && s[0] == '0' {
		return 0, false
	}
	n, _ := new(big.Int).SetString(s, 10)
	if n.Cmp(big.NewInt(most)) > 0 {
		return 0, false
	}
	return int(n.Int64()), true
}

// parsed reads an id part by part, by the chapter's limits.
func parsed(s string) (api.Id, bool) {
	l := strings.Split(s, ".")
	if len(l) != 3 {
		return api.Id{}, false
	}
	t, okT := number(l[0], lastT)
	r, okR := number(l[1], lastR)
	i, okI := number(l[2], lastI)
	if !okT || !okR || !okI || t == 0 || r == 0 {
		return api.Id{}, false
	}
	return idOf(t, r, i), true
}

func checkParse(t *testing.T, s string) {
	t.Helper()
	want, ok := parsed(s)
	if got, is := stamp.Parse(s); got != want || is != ok {
		t.Errorf("E3: Parse(%q): %v %v, not %v %v", s, got, is, want, ok)
	}
}

func TestParse(t *testing.T) {
	for s, want := range map[string]api.Id{"3.1.0": idOf(3, 1, 0), "1.1.0": idOf(1, 1, 0), "10.10.10": idOf(10, 10, 10), "1099511627776.16.400000": idOf(lastT, lastR, lastI)} {
		if got, ok := stamp.Parse(s); got != want || !ok {
			t.Errorf("E3: Parse(%q): %v %v", s, got, ok)
		}
	}
	for _, x := range rightIds() {
		checkParse(t, stamp.Text(x))
	}
}

func TestParseOfNoText(t *testing.T) {
	for _, s := range []string{
		"", " ", ".", "..", "...", "3", "3.1", "3.1.", ".1.0", "3..0", "3.1.0.", ".3.1.0", "3.1.0.0", "3.1.0.x", "3.1.0.0.0", // parts
		"03.1.0", "3.01.0", "3.1.00", "3.1.01", "00.1.0", "0003.1.0", // noughts ahead
		"+3.1.0", "3.+1.0", "3.1.+0", "-3.1.0", "3.-1.0", "3.1.-1", "3.1.-0", "--3.1.0", // signs
		"0.1.0", "3.0.0", "0.0.0", "1099511627777.1.0", "3.17.0", "3.1.400001", "9999999999999.1.0", "3.99.0", "3.1.4000000", // too great or small
		"9223372036854775807.1.0", "9223372036854775808.1.0", "18446744073709551617.1.0", "3.18446744073709551617.0", "3.1.18446744073709551616", // no int
		"-9223372036854775809.1.0", "3.1." + strings.Repeat("9", 400), strings.Repeat("1", 400) + ".1.0",
		" 3.1.0", "3.1.0 ", "3. 1.0", "3.1.0\n", "3.1.0\x00", "\xff3.1.0", "3,1,0", "3_0.1.0", "0x3.1.0", "3e1.1.0", "3.1.a", "a.b.c", "٣.1.0", "3.1.０", "3.1.0~",
		strings.Repeat(".", 1000), "3.1.0" + strings.Repeat(".0", 1000), strings.Repeat("0", 1000) + "3.1.0",
	} {
		if x, ok := stamp.Parse(s); ok || x != (api.Id{}) {
			t.Errorf("E3: Parse(%q): %v %v", s, x, ok)
		}
	}
}

func TestParseOfShortTexts(t *testing.T) {
	all := []string{""}
	for i := 0; i < len(all) && len(all[i]) < 7; i++ {
		for _, c := range "0167.-" {
			all = append(all, all[i]+string(c))
		}
	}
	found := 0
	for _, s := range all {
		checkParse(t, s)
		if _, ok := parsed(s); ok {
			found++
		}
	}
	if found < 100 {
		t.Errorf("E3: %d of the texts are ids': they tell too little", found)
	}
}

func TestParseOfTextsWithAChange(t *testing.T) {
	for _, x := range rightIds() {
		s := stamp.Text(x)
		for i := range len(s) + 1 {
			checkParse(t, s[:i])
			checkParse(t, s[i:])
			for _, c := range []string{"0", "1", "9", ".", "-", "+", "_", " ", "x", "\x00", "\x80", "é"} {
				checkParse(t, s[:i]+c+s[i:])
				if i < len(s) {
					checkParse(t, s[:i]+c+s[i+1:])
				}
			}
		}
	}
}

func TestAt(t *testing.T) {
	for _, x := range []struct {
		v       []int
		r, want int
	}{{[]int{5, 7}, 1, 5}, {[]int{5, 7}, 2, 7}, {[]int{5, 7}, 3, 0}, {[]int{5, 7}, 0, 0}, {[]int{5, 7}, -1, 0}, {nil, 1, 0}, {nil, 0, 0}, {[]int{-3}, 1, -3}, {[]int{5}, math.MaxInt, 0}, {[]int{5}, math.MinInt, 0}} {
		if got := stamp.At(x.v, x.r); got != x.want {
			t.Errorf("E4: At(%v, %d): %d", x.v, x.r, got)
		}
	}
	for _, v := range vectors() {
		p := padded(v)
		for r := 1; r <= room; r++ {
			if got := stamp.At(v, r); got != p[r-1] {
				t.Errorf("E4: At(%v, %d): %d", v, r, got)
			}
		}
		for _, r := range []int{math.MinInt, -len(v), -1, 0, len(v) + 1, math.MaxInt} {
			if got := stamp.At(v, r); got != 0 {
				t.Errorf("E4: At(%v, %d): %d", v, r, got)
			}
		}
	}
}

// covers tells E4 of padded vectors.
func covers(v, w []int) bool {
	p, q := padded(v), padded(w)
	for i := range p {
		if p[i] < q[i] {
			return false
		}
	}
	return true
}

func TestCovers(t *testing.T) {
	for _, x := range []struct {
		v, w []int
		want bool
	}{
		{[]int{2, 1}, []int{2}, true}, {[]int{2}, []int{2, 1}, false}, {[]int{2, 1}, []int{2, 1}, true}, {[]int{1, 2}, []int{2, 1}, false},
		{nil, nil, true}, {nil, []int{0, 0}, true}, {[]int{0, 0}, nil, true}, {nil, []int{0, 1}, false}, {[]int{3}, nil, true},
		{nil, []int{-1}, true}, {[]int{-1}, nil, false}, {[]int{1, -1}, []int{1}, false}, {[]int{1}, []int{1, -1}, true}, {[]int{1, 2, 3}, []int{1, 2, 4}, false},
		{[]int{0, 0, 0, 1}, []int{0, 0, 0, 1, 0}, true}, {append(make([]int, 16), 1), make([]int, 16), true}, {make([]int, 16), append(make([]int, 16), 1), false},
		{[]int{math.MinInt}, []int{math.MaxInt}, false}, {[]int{math.MaxInt}, []int{math.MinInt}, true},
	} {
		if got := stamp.Covers(x.v, x.w); got != x.want {
			t.Errorf("E4: Covers(%v, %v): %v", x.v, x.w, got)
		}
	}
	for _, v := range vectors() {
		for _, w := range vectors() {
			if got := stamp.Covers(v, w); got != covers(v, w) {
				t.Errorf("E4: Covers(%v, %v): %v", v, w, got)
			}
		}
	}
}

func TestPlain(t *testing.T) {
	for _, x := range []struct{ v, want []int }{
		{nil, nil}, {[]int{}, nil}, {[]int{0}, nil}, {[]int{0, 0, 0}, nil}, {[]int{0, 1, 0, 0}, []int{0, 1}}, {[]int{1, 2}, []int{1, 2}},
		{[]int{0, 3}, []int{0, 3}}, {[]int{-1, 0}, []int{-1}}, {make([]int, 40), nil}, {append(make([]int, 20), 9, 0), append(make([]int, 20), 9)},
	} {
		if got := stamp.Plain(x.v); !slices.Equal(got, x.want) {
			t.Errorf("E5: Plain(%v): %v", x.v, got)
		}
	}
	for _, v := range vectors() {
		checkVector(t, fmt.Sprintf("E5: Plain(%v)", v), stamp.Plain(v), padded(v))
	}
}

func TestMergeAndMeet(t *testing.T) {
	for _, x := range []struct{ v, w, merged, met []int }{
		{[]int{0, 3}, []int{1}, []int{1, 3}, nil},
		{[]int{2, 3}, []int{1, 4}, []int{2, 4}, []int{1, 3}},
		{nil, nil, nil, nil},
		{nil, []int{5}, []int{5}, nil},
		{[]int{0, 0}, []int{0}, nil, nil},
		{[]int{1, 0}, []int{1, 0, 0}, []int{1}, []int{1}},
		{[]int{1, 2, 3}, []int{1, 2}, []int{1, 2, 3}, []int{1, 2}},
		{[]int{1, 2}, []int{0, 5, 7}, []int{1, 5, 7}, []int{0, 2}},
		{[]int{-1}, nil, nil, []int{-1}},
		{nil, []int{-1, 2}, []int{0, 2}, []int{-1}},
		{[]int{-1}, []int{-2}, []int{-1}, []int{-2}},
		{[]int{math.MinInt}, []int{math.MaxInt}, []int{math.MaxInt}, []int{math.MinInt}},
		{append(make([]int, 16), 1), []int{2}, append([]int{2}, append(make([]int, 15), 1)...), nil},
	} {
		for _, turned := range []bool{false, true} {
			v, w := x.v, x.w
			if turned {
				v, w = w, v
			}
			if got := stamp.Merge(v, w); !slices.Equal(got, x.merged) {
				t.Errorf("E5: Merge(%v, %v): %v", v, w, got)
			}
			if got := stamp.Meet(v, w); !slices.Equal(got, x.met) {
				t.Errorf("E5: Meet(%v, %v): %v", v, w, got)
			}
		}
	}
	for _, v := range vectors() {
		for _, w := range vectors() {
			greater, smaller := padded(v), padded(w)
			for i := range greater {
				if greater[i] < smaller[i] {
					greater[i], smaller[i] = smaller[i], greater[i]
				}
			}
			checkVector(t, fmt.Sprintf("E5: Merge(%v, %v)", v, w), stamp.Merge(v, w), greater)
			checkVector(t, fmt.Sprintf("E5: Meet(%v, %v)", v, w), stamp.Meet(v, w), smaller)
		}
	}
}

func TestWith(t *testing.T) {
	for _, x := range []struct {
		v    []int
		r, n int
		want []int
	}{
		{[]int{1}, 1, 9, []int{9}},
		{[]int{1}, 2, 9, []int{1, 9}},
		{[]int{1}, 3, 9, []int{1, 0, 9}},
		{nil, 1, 9, []int{9}},
		{nil, 16, 9, append(make([]int, 15), 9)},
		{[]int{1, 2}, 2, 0, []int{1}}, // 0 at the end
		{[]int{1, 0, 2}, 3, 0, []int{1}},
		{[]int{0, 0, 2}, 3, 0, nil},
		{[]int{1, 2}, 1, 0, []int{0, 2}},
		{[]int{1}, 5, 0, []int{1}}, // 0 behind the end
		{nil, 16, 0, nil},
		{[]int{1, 0, 0}, 2, 4, []int{1, 4}},
		{[]int{1, 0, 0}, 1, 2, []int{2}},
		{[]int{1, 2}, 2, -3, []int{1, -3}},
		{make([]int, 16), 16, 1, append(make([]int, 15), 1)},
		{append(make([]int, 16), 7), 2, 5, append([]int{0, 5}, append(make([]int, 14), 7)...)},
	} {
		if got, e := stamp.With(x.v, x.r, x.n); !slices.Equal(got, x.want) || e != api.OK {
			t.Errorf("E6: With(%v, %d, %d): %v %d", x.v, x.r, x.n, got, e)
		}
	}
	for _, v := range vectors() {
		for r := 1; r <= lastR; r++ {
			for _, n := range []int{math.MinInt, -1, 0, 1, lastT, math.MaxInt} {
				want := padded(v)
				want[r-1] = n
				got, e := stamp.With(v, r, n)
				checkVector(t, fmt.Sprintf("E6: With(%v, %d, %d)", v, r, n), got, want)
				if e != api.OK {
					t.Errorf("E6: With(%v, %d, %d): %d", v, r, n, e)
				}
			}
		}
	}
}

func TestWithOfNoReplica(t *testing.T) {
	for _, v := range vectors() {
		for _, r := range []int{math.MinInt, -16, -1, 0, lastR + 1, 18, math.MaxInt} {
			for _, n := range []int{-1, 0, 1} {
				if got, e := stamp.With(v, r, n); len(got) > 0 || e != api.ErrArg {
					t.Errorf("E6: With(%v, %d, %d): %v %d", v, r, n, got, e)
				}
			}
		}
	}
}

func TestVector(t *testing.T) {
	full := slices.Repeat([]int{1}, lastR)
	for _, x := range []struct {
		v    []int
		want bool
	}{
		{nil, true}, {[]int{}, true}, {[]int{1}, true}, {[]int{0, 1}, true}, {[]int{0, 0, 3}, true}, {[]int{math.MaxInt}, true}, {full, true}, {full[:15], true},
		{[]int{0}, false}, {[]int{1, 0}, false}, {[]int{0, 0}, false}, {[]int{-1}, false}, {[]int{-1, 1}, false}, {[]int{1, -1}, false}, {[]int{1, -1, 1}, false},
		{[]int{math.MinInt}, false}, {append(full[:16:16], 1), false}, {append(full[:16:16], 0), false}, {append(make([]int, 16), 1), false}, {append(make([]int, 15), 1), true}, {make([]int, 16), false},
	} {
		if got := stamp.Vector(x.v); got != x.want {
			t.Errorf("E6: Vector(%v): %v", x.v, got)
		}
	}
	for _, v := range vectors() {
		want := len(v) == 0 || len(v) <= lastR && v[len(v)-1] != 0 && slices.Min(v) >= 0
		if got := stamp.Vector(v); got != want {
			t.Errorf("E6: Vector(%v): %v", v, got)
		}
	}
}

func TestIdsComeBack(t *testing.T) {
	texts := map[string]api.Id{}
	for _, x := range rightIds() {
		s := stamp.Text(x)
		if got, ok := stamp.Parse(s); got != x || !ok {
			t.Errorf("E7: %v came back from %q as %v %v", x, s, got, ok)
		}
		if y, is := texts[s]; is {
			t.Errorf("E7: %v and %v have the text %q", x, y, s)
		}
		texts[s] = x
	}
}

func TestIdsStandInOneOrder(t *testing.T) {
	few := []int{-1, 0, 1, 2}
	var all []api.Id
	for _, a := range few {
		for _, b := range few {
			for _, c := range few {
				all = append(all, idOf(c, a, b)) // not in order
			}
		}
	}
	for _, a := range all {
		for _, b := range all {
			ab, ba := stamp.CmpId(a, b), stamp.CmpId(b, a)
			if ab != -ba || (ab == 0) != (a == b) {
				t.Fatalf("E7: %v and %v: %d one way, %d the other", a, b, ab, ba)
			}
			if by := stamp.Cmp(a.Stamp, b.Stamp); by != 0 && by != ab {
				t.Fatalf("E7: %v and %v: %d, their stamps %d", a, b, ab, by)
			}
			for _, c := range all {
				if ab <= 0 && stamp.CmpId(b, c) <= 0 && stamp.CmpId(a, c) > 0 {
					t.Fatalf("E7: %v, %v, %v go in a ring", a, b, c)
				}
			}
		}
	}
}

func TestMergedIsTheLeastAndMetTheGreatest(t *testing.T) {
	all := short()
	for _, v := range all {
		for _, w := range all {
			merged, met := stamp.Merge(v, w), stamp.Meet(v, w)
			for _, u := range all {
				if both := stamp.Covers(u, v) && stamp.Covers(u, w); stamp.Covers(u, merged) != both {
					t.Fatalf("E7: %v covers %v and %v: %v; but not so Merge: %v", u, v, w, both, merged)
				}
				if both := stamp.Covers(v, u) && stamp.Covers(w, u); stamp.Covers(met, u) != both {
					t.Fatalf("E7: %v and %v cover %v: %v; but not so Meet: %v", v, w, u, both, met)
				}
			}
		}
	}
}

// calls are the calls that are given vectors, each with those that it answers, if any.
func calls() map[string]func(v, w []int) []int {
	return map[string]func(v, w []int) []int{
		"At":            func(v, w []int) []int { return []int{stamp.At(v, 1), stamp.At(w, len(w)+1)} },
		"Covers":        func(v, w []int) []int { stamp.Covers(v, w); return nil },
		"Plain":         func(v, w []int) []int { return stamp.Plain(v) },
		"Merge":         func(v, w []int) []int { return stamp.Merge(v, w) },
		"Meet":          func(v, w []int) []int { return stamp.Meet(v, w) },
		"With":          func(v, w []int) []int { all, _ := stamp.With(v, len(v)/2+1, 77); return all },
		"With at 16":    func(v, w []int) []int { all, _ := stamp.With(v, 16, 77); return all },
		"With 0 at 1":   func(v, w []int) []int { all, _ := stamp.With(v, 1, 0); return all },
		"With of error": func(v, w []int) []int { all, _ := stamp.With(v, 17, 77); return all },
		"Vector":        func(v, w []int) []int { stamp.Vector(v); return nil },
	}
}

// longer is v with numbers behind its end that a list which grows in place would write over.
func longer(v []int) []int {
	return append(slices.Clone(v), slices.Repeat([]int{9, -7}, lastR)...)
}

func TestVectorsStayAsTheyAre(t *testing.T) {
	some := [][]int{nil, {2}, {0, 1, 0}, {-1, 3, 2, 1, 0, 0}, drawn(3, 16, 0, 1, 2), drawn(4, 17, 0, 1, 2), drawn(5, 40, -1, 0, 1)}
	for name, call := range calls() {
		for _, v := range vectors() {
			for _, w := range some {
				a, b := longer(v), longer(w)
				got := call(a[:len(v)], b[:len(w)])
				if !slices.Equal(a, longer(v)) || !slices.Equal(b, longer(w)) {
					t.Fatalf("R3: %s wrote into %v or %v, or behind them", name, v, w)
				}
				was := slices.Clone(got)
				got = append(got, 55)
				for i := range got {
					got[i] = 66
				}
				if !slices.Equal(a, longer(v)) || !slices.Equal(b, longer(w)) {
					t.Fatalf("%s of %v and %v: its answer is of their memory", name, v, w)
				}
				if again := call(a[:len(v)], b[:len(w)]); !slices.Equal(again, was) {
					t.Fatalf("R4: %s of %v and %v: %v, then %v", name, v, w, was, again)
				}
			}
		}
	}
}

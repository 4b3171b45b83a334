package gauge_test

import (
	"math"
	"math/big"
	"slices"
	"testing"

	"recension/api"
	"recension/gauge"
)

const (
	nanTold  = 0x7FF8000000000001 // what is told of every NaN
	minusTop = 1 << 63            // the bit of the sign
)

var (
	nan  = math.NaN()
	inf  = math.Inf(1)
	zero = math.Copysign(0, -1) // the one below +0
)

// nans are NaN of all kinds of bits: quiet and not, with and without a sign.
func nans() []float64 {
	return floats(0x7FF0000000000001, 0x7FF7FFFFFFFFFFFF, 0x7FF8000000000000, nanTold, 0x7FF8000000000002, 0x7FFFFFFFFFFFFFFF,
		0xFFF0000000000001, 0xFFF7FFFFFFFFFFFF, 0xFFF8000000000000, 0xFFF8000000000001, 0xFFF8000000000123, 0xFFFFFFFFFFFFFFFF)
}

// floats are the floats of these bits.
func floats(bits ...uint64) []float64 {
	var l []float64
	for _, b := range bits {
		l = append(l, math.Float64frombits(b))
	}
	return l
}

// numbers are numbers in order, at the edges of their forms.
func numbers() []float64 {
	above := floats(1, 2, 0x000FFFFFFFFFFFFF, 0x0010000000000000, 0x0010000000000001, 0x3FEFFFFFFFFFFFFF, 0x3FF0000000000000, 0x3FF0000000000001,
		0x4000000000000000, 0x4340000000000000, 0x4340000000000001, 0x7FE0000000000000, 0x7FEFFFFFFFFFFFFE, 0x7FEFFFFFFFFFFFFF)
	var l []float64
	for _, f := range slices.Backward(above) {
		l = append(l, -f)
	}
	return append(append(l, zero, 0), above...)
}

// ladder is all the edges in order, one NaN for all.
func ladder() []float64 {
	return slices.Concat([]float64{nan, -inf}, numbers(), []float64{inf})
}

// chaos is n numbers without a pattern, the same ones for the same seed.
func chaos(seed uint64, n int) []uint64 {
	l := make([]uint64, n)
	for i := range l {
		seed ^= seed << 13
		seed ^= seed >> 7
		seed ^= seed << 17
		l[i] = seed
	}
	return l
}

// drawn are n floats from a few, without a pattern.
func drawn(seed uint64, n int, from []float64) []float64 {
	var l []float64
	for _, c := range chaos(seed, n) {
		l = append(l, from[c>>20%uint64(len(from))])
	}
	return l
}

// lists are lists of floats: all short ones of a few, and long ones.
func lists() [][]float64 {
	few := []float64{1, nan, zero, 0, -inf, inf, -1, nans()[8]}
	all := [][]float64{nil}
	for i := 0; i < len(all) && len(all[i]) < 4; i++ {
		for _, f := range few {
			all = append(all, append(slices.Clone(all[i]), f))
		}
	}
	for n := range 40 {
		seed := uint64(n + 1)
		all = append(all, drawn(seed, n, few), drawn(seed, n, numbers()), drawn(seed, 11*n, append(ladder(), nans()...)), floats(chaos(seed, n)...))
	}
	turned := ladder()
	slices.Reverse(turned)
	return append(all, ladder(), turned, nans(), drawn(3, 1500, few[:3]), drawn(4, 1500, ladder()), floats(chaos(5, 1500)...))
}

// height is a number that is greater, the further behind a float stands; that is another way than the program's.
func height(f float64) uint64 {
	b := math.Float64bits(f)
	switch {
	case f != f:
		return 0
	case b >= minusTop:
		return ^b
	}
	return b | minusTop
}

// same tells whether two floats are the same ones: NaN whatever their bits, the others bit for bit.
func same(a, b float64) bool { return height(a) == height(b) }

// bits are the bits of each of l.
func bits(l []float64) []uint64 {
	var all []uint64
	for _, f := range l {
		all = append(all, math.Float64bits(f))
	}
	return all
}

// brief is the head of a list.
func brief[T any](l []T) []T { return l[:min(len(l), 20)] }

func checkRate(t *testing.T, part, whole int, want float64) {
	t.Helper()
	if got := gauge.Rate(part, whole); !same(got, want) {
		t.Errorf("D1: Rate(%d, %d): %v, not %v", part, whole, got, want)
	}
}

func checkCmp(t *testing.T, a, b float64, want int) {
	t.Helper()
	if got := gauge.Cmp(a, b); got != want {
		t.Errorf("D2: Cmp(%v, %v), bits %x and %x: %d, not %d", a, b, math.Float64bits(a), math.Float64bits(b), got, want)
	}
}

func checkOrder(t *testing.T, l []float64, want ...int) {
	t.Helper()
	if got := gauge.Order(l); !slices.Equal(got, want) {
		t.Errorf("D3: Order(%v), %d floats: %v, not %v", brief(l), len(l), brief(got), brief(want))
	}
}

func checkMiddle(t *testing.T, l []float64, want float64, err api.Errno) {
	t.Helper()
	if got, e := gauge.Middle(l); !same(got, want) || e != err {
		t.Errorf("D4: Middle(%v), %d floats: %v %d, not %v %d", brief(l), len(l), got, e, want, err)
	}
}

func checkSum(t *testing.T, l []float64, want float64) {
	t.Helper()
	if got := gauge.Sum(l); !same(got, want) {
		t.Errorf("D5: Sum(%v), %d floats: %v, not %v", brief(l), len(l), got, want)
	}
}

// ints are ints at the edges: around 0, and around those that no float is.
func ints() []int {
	l := []int{0, 1, 2, 3, 4, 5, 7, 10, 100, 1<<31 - 1, 1 << 31, 1<<52 + 1, 1<<53 - 1, 1 << 53, 1<<53 + 1, 1<<53 + 2, 1<<53 + 3, 1<<54 + 2, 1<<54 + 6,
		1<<60 + 1, 1<<62 - 1, 1 << 62, 1<<62 + 256, 1<<62 + 257, 1<<62 + 768, math.MaxInt - 512, math.MaxInt - 511, math.MaxInt - 1, math.MaxInt}
	for _, n := range slices.Clone(l) {
		l = append(l, -n)
	}
	for i, c := range chaos(9, 60) {
		l = append(l, int(c)>>i)
	}
	return append(l, math.MinInt, math.MinInt+1, math.MinInt+512, math.MinInt+513)
}

// nearest is the float with 53 bits that is nearest to n, reckoned apart.
func nearest(n int) *big.Float {
	return new(big.Float).SetPrec(53).SetMode(big.ToNearestEven).SetInt(big.NewInt(int64(n)))
}

// rate reckons what Rate is of ints, where whole isn't 0.
func rate(part, whole int) float64 {
	f, _ := new(big.Float).SetPrec(53).Quo(nearest(part), nearest(whole)).Float64()
	return f
}

func TestRate(t *testing.T) {
	checkRate(t, 1, 4, 0.25)
	checkRate(t, 4, 1, 4)
	checkRate(t, 1, 3, 1.0/3)
	checkRate(t, -1, 3, -1.0/3)
	checkRate(t, 2, -3, -2.0/3)
	checkRate(t, -2, -4, 0.5)
	checkRate(t, 7, 7, 1)
	for _, part := range ints() {
		for _, whole := range ints() {
			if whole != 0 {
				checkRate(t, part, whole, rate(part, whole))
			}
		}
	}
}

func TestRateOfNothing(t *testing.T) {
	checkRate(t, 0, 0, nan)
	for _, n := range ints() {
		switch {
		case n > 0:
			checkRate(t, n, 0, inf)
			checkRate(t, 0, n, 0)
		case n < 0:
			checkRate(t, n, 0, -inf)
			checkRate(t, 0, n, zero)
		}
	}
}

func TestRateOfIntsThatNoFloatIs(t *testing.T) {
	checkRate(t, 1<<53+1, 1, 1<<53) // halfway: to the even one
	checkRate(t, 1<<53+3, 1, 1<<53+4)
	checkRate(t, -(1<<53 + 1), 1, -(1 << 53))
	checkRate(t, 1<<53+1, 1<<53, 1)
	checkRate(t, 1<<53, 1<<53+1, 1)
	checkRate(t, math.MaxInt, 1, 1<<63)
	checkRate(t, math.MinInt, 1, -(1 << 63))
	checkRate(t, math.MinInt, -1, 1<<63)
	checkRate(t, math.MinInt, math.MaxInt, -1)
	// where the quotient of the nearest floats isn't the float that is nearest to the quotient
	for _, x := range [][2]int{{1<<53 + 1, 3}, {1<<53 + 1, 1<<53 + 3}, {math.MaxInt - 511, -5}, {math.MaxInt - 511, math.MaxInt - 600}, {5, math.MaxInt - 600}, {-(1<<53 + 1), 7}} {
		exact, _ := big.NewRat(int64(x[0]), int64(x[1])).Float64()
		if want := rate(x[0], x[1]); want == exact {
			t.Errorf("D1: Rate(%d, %d) tells nothing", x[0], x[1])
		} else {
			checkRate(t, x[0], x[1], want)
		}
	}
}

func TestCmp(t *testing.T) {
	for i, a := range ladder() {
		for k, b := range ladder() {
			switch {
			case i < k:
				checkCmp(t, a, b, -1)
			case i > k:
				checkCmp(t, a, b, 1)
			default:
				checkCmp(t, a, b, 0)
			}
		}
	}
	checkCmp(t, 1, 2, -1)
	checkCmp(t, 2, 1, 1)
	checkCmp(t, -2, -1, -1)
	checkCmp(t, 1.5, 1.5, 0)
}

func TestCmpOfNaNs(t *testing.T) {
	for _, a := range nans() {
		for _, b := range nans() {
			checkCmp(t, a, b, 0)
		}
		for _, b := range ladder()[1:] {
			checkCmp(t, a, b, -1)
			checkCmp(t, b, a, 1)
		}
	}
}

func TestCmpOfZeros(t *testing.T) {
	checkCmp(t, zero, 0, -1)
	checkCmp(t, 0, zero, 1)
	checkCmp(t, 0, 0, 0)
	checkCmp(t, zero, zero, 0)
	checkCmp(t, zero, -math.SmallestNonzeroFloat64, 1)
	checkCmp(t, 0, math.SmallestNonzeroFloat64, -1)
}

func TestCmpOfAnyBits(t *testing.T) {
	l := floats(chaos(11, 400)...)
	for _, a := range l {
		for _, b := range l {
			want := 0
			if height(a) < height(b) {
				want = -1
			} else if height(a) > height(b) {
				want = 1
			}
			checkCmp(t, a, b, want)
		}
	}
}

// order reckons where each float stands from how many stand ahead of it.
func order(l []float64) []int {
	places := make([]int, len(l))
	for i, f := range l {
		at := 0
		for k, g := range l {
			if height(g) < height(f) || height(g) == height(f) && k < i {
				at++
			}
		}
		places[at] = i
	}
	return places
}

func TestOrder(t *testing.T) {
	checkOrder(t, nil)
	checkOrder(t, []float64{})
	checkOrder(t, []float64{nan}, 0)
	checkOrder(t, []float64{2, 1}, 1, 0)
	checkOrder(t, []float64{1, nan, zero, 0}, 1, 2, 3, 0)
	checkOrder(t, []float64{1, nan, zero, 0, 1, -1}, 1, 5, 2, 3, 0, 4)
	checkOrder(t, []float64{inf, 0, zero, -inf, nan}, 4, 3, 2, 1, 0)
	for _, l := range lists() {
		checkOrder(t, l, order(l)...)
	}
}

func TestOrderOfThoseThatStandWithOneAnother(t *testing.T) {
	checkOrder(t, []float64{1, 0, 1, 0, 1}, 1, 3, 0, 2, 4)
	for _, f := range append(ladder(), nans()...) {
		checkOrder(t, []float64{f, f, f}, 0, 1, 2)
	}
	var want []int
	for i := range nans() {
		want = append(want, i)
	}
	checkOrder(t, nans(), want...)
	turned := nans()
	slices.Reverse(turned)
	checkOrder(t, turned, want...)
	for _, n := range []int{12, 13, 20, 21, 50, 51, 300} { // the way of sorting may change with the length
		var l []float64
		var ones, twos []int
		for i := range n {
			l = append(l, float64(2-i%2))
			if i%2 == 1 {
				ones = append(ones, i)
			} else {
				twos = append(twos, i)
			}
		}
		checkOrder(t, l, append(ones, twos...)...)
	}
}

// middle reckons the middle number: as many stand ahead of it as behind it, or one more behind.
func middle(l []float64) (float64, api.Errno) {
	var found []float64
	for _, f := range l {
		if math.Float64bits(f)>>52&0x7FF != 0x7FF {
			found = append(found, f)
		}
	}
	if len(found) == 0 {
		return 0, api.ErrFloat
	}
	places := order(found)
	ahead := 0
	for 2*ahead+2 < len(found) {
		ahead++
	}
	return found[places[ahead]], api.OK
}

func TestMiddle(t *testing.T) {
	checkMiddle(t, []float64{5}, 5, api.OK)
	checkMiddle(t, []float64{3, 1, 2}, 2, api.OK)
	checkMiddle(t, []float64{5, nan, 1, inf}, 1, api.OK)
	checkMiddle(t, []float64{2, 1}, 1, api.OK)
	checkMiddle(t, []float64{1, 2}, 1, api.OK)
	checkMiddle(t, []float64{4, 3, 2, 1}, 2, api.OK)
	checkMiddle(t, []float64{5, 4, 3, 2, 1}, 3, api.OK)
	checkMiddle(t, []float64{1, 1, 1, 9}, 1, api.OK)
	checkMiddle(t, []float64{inf, inf, -inf, nan, 7, -inf, nan}, 7, api.OK)
	checkMiddle(t, []float64{math.MaxFloat64, -math.MaxFloat64}, -math.MaxFloat64, api.OK)
	for _, l := range lists() {
		want, err := middle(l)
		checkMiddle(t, l, want, err)
	}
}

func TestMiddleOfZeros(t *testing.T) {
	checkMiddle(t, []float64{0, zero}, zero, api.OK)
	checkMiddle(t, []float64{zero, 0}, zero, api.OK)
	checkMiddle(t, []float64{0, zero, 0}, 0, api.OK)
	checkMiddle(t, []float64{zero, 0, zero}, zero, api.OK)
	checkMiddle(t, []float64{0}, 0, api.OK)
	checkMiddle(t, []float64{zero}, zero, api.OK)
}

func TestMiddleOfNoNumbers(t *testing.T) {
	if api.ErrFloat != 40 {
		t.Error("D4: ErrFloat isn't 40")
	}
	checkMiddle(t, nil, 0, api.ErrFloat)
	checkMiddle(t, []float64{}, 0, api.ErrFloat)
	checkMiddle(t, []float64{nan, inf, -inf}, 0, api.ErrFloat)
	checkMiddle(t, nans(), 0, api.ErrFloat)
	for _, f := range append(nans(), inf, -inf) {
		checkMiddle(t, []float64{f}, 0, api.ErrFloat)
		checkMiddle(t, []float64{f, 3, f}, 3, api.OK)
	}
}

// plus reckons a sum of two floats that are not NaN.
func plus(a, b float64) float64 {
	switch {
	case math.IsInf(a, 0) && math.IsInf(b, 0) && a != b:
		return nan
	case math.IsInf(a, 0):
		return a
	case math.IsInf(b, 0):
		return b
	}
	f, _ := new(big.Float).SetPrec(53).Add(big.NewFloat(a), big.NewFloat(b)).Float64()
	return f
}

// sum reckons the sum of l.
func sum(l []float64) float64 {
	s := 0.0
	for _, f := range l {
		if s == s && f == f {
			s = plus(s, f)
		}
	}
	return s
}

func TestSum(t *testing.T) {
	checkSum(t, []float64{5}, 5)
	checkSum(t, []float64{1, 2, 4}, 7)
	checkSum(t, []float64{1, nan, 2}, 3)
	checkSum(t, []float64{-1, 1}, 0)
	checkSum(t, []float64{math.SmallestNonzeroFloat64, math.SmallestNonzeroFloat64}, 2*math.SmallestNonzeroFloat64)
	for _, f := range append(numbers()[:14], numbers()[15:]...) {
		checkSum(t, []float64{f}, f)
	}
	for _, l := range lists() {
		checkSum(t, l, sum(l))
	}
}

func TestSumIsInTurn(t *testing.T) {
	checkSum(t, []float64{1, 1 << 53, -(1 << 53)}, 0)
	checkSum(t, []float64{1 << 53, -(1 << 53), 1}, 1)
	checkSum(t, []float64{1 << 53, 1, 1}, 1<<53)
	checkSum(t, []float64{1, 1, 1 << 53}, 1<<53+2)
	tenths := []float64{0.1, 0.1, 0.1, 0.1, 0.1, 0.1, 0.1, 0.1, 0.1, 0.1}
	checkSum(t, tenths, 0x1.fffffffffffffp-1)
}

func TestSumOfNothingAndOfZeros(t *testing.T) {
	checkSum(t, nil, 0)
	checkSum(t, []float64{}, 0)
	checkSum(t, nans(), 0)
	checkSum(t, []float64{zero}, 0)
	checkSum(t, []float64{zero, zero}, 0)
	checkSum(t, []float64{zero, nan, 0}, 0)
}

func TestSumThatIsEndless(t *testing.T) {
	most := math.MaxFloat64
	checkSum(t, []float64{most, most}, inf)
	checkSum(t, []float64{-most, -most}, -inf)
	checkSum(t, []float64{most, most, -most}, inf) // on the way, and for good
	checkSum(t, []float64{most, -most, most}, most)
	checkSum(t, []float64{most, 1}, most)
	checkSum(t, []float64{1e300, 1e300, -1e300, 1e308, 1e308}, inf)
	checkSum(t, []float64{inf, 1, nan, inf}, inf)
	checkSum(t, []float64{1, -inf, most, most}, -inf)
	checkSum(t, []float64{inf, -inf}, nan)
	checkSum(t, []float64{-inf, inf}, nan)
	checkSum(t, []float64{1, inf, 2, -inf, 3, nan, inf}, nan)
	checkSum(t, []float64{most, most, -inf}, nan)
}

func TestBits(t *testing.T) {
	for _, f := range nans() {
		if b := gauge.Bits(f); b != nanTold {
			t.Errorf("D6: Bits of the NaN %x: %x", math.Float64bits(f), b)
		}
	}
	for _, x := range []struct {
		f    float64
		want uint64
	}{{0, 0}, {zero, minusTop}, {1, 0x3FF0000000000000}, {-2, 0xC000000000000000}, {inf, 0x7FF0000000000000}, {-inf, 0xFFF0000000000000},
		{math.SmallestNonzeroFloat64, 1}, {math.MaxFloat64, 0x7FEFFFFFFFFFFFFF}, {nan, nanTold}, {gauge.Rate(0, 0), nanTold}, {gauge.Sum([]float64{inf, -inf}), nanTold}} {
		if b := gauge.Bits(x.f); b != x.want {
			t.Errorf("D6: Bits(%v): %x, not %x", x.f, b, x.want)
		}
	}
	for _, f := range append(ladder()[1:], drawn(13, 200, numbers())...) {
		if b := gauge.Bits(f); b != math.Float64bits(f) {
			t.Errorf("D6: Bits(%v): %x", f, b)
		}
	}
}

func TestOf(t *testing.T) {
	l := append(bits(nans()), bits(ladder())...)
	for i := range 64 {
		l = append(l, 1<<i, 1<<i-1, ^uint64(1<<i))
	}
	for _, b := range append(l, chaos(17, 500)...) {
		f := gauge.Of(b)
		if math.Float64bits(f) != b {
			t.Errorf("D6: Of(%x): %x", b, math.Float64bits(f))
		}
		want := b
		if f != f {
			want = nanTold
		}
		if got := gauge.Bits(f); got != want {
			t.Errorf("D6: Bits of Of(%x): %x", b, got)
		}
	}
	if f := gauge.Of(0x3FF0000000000000); f != 1 {
		t.Errorf("D6: Of the bits of 1: %v", f)
	}
}

// some are the edges, all NaNs, and floats of any bits.
func some() []float64 {
	return slices.Concat(ladder(), nans(), floats(chaos(19, 40)...))
}

func TestOrderIsOneOfAllFloats(t *testing.T) {
	all := some()
	for _, a := range all {
		for _, b := range all {
			ab, ba := gauge.Cmp(a, b), gauge.Cmp(b, a)
			if ab != -ba || ab < -1 || ab > 1 {
				t.Fatalf("D7: %v and %v: %d one way, %d the other", a, b, ab, ba)
			}
			if (ab == 0) != (gauge.Bits(a) == gauge.Bits(b)) {
				t.Fatalf("D7: %v and %v: %d, bits %x and %x", a, b, ab, gauge.Bits(a), gauge.Bits(b))
			}
			for _, c := range all {
				if ab <= 0 && gauge.Cmp(b, c) <= 0 && gauge.Cmp(a, c) > 0 {
					t.Fatalf("D7: %v, %v, %v go in a ring", a, b, c)
				}
			}
		}
	}
}

func TestOrderedIsThereOnceEach(t *testing.T) {
	for _, l := range lists() {
		seen := make([]int, len(l))
		o := gauge.Order(l)
		for i, place := range o {
			if place < 0 || place >= len(l) {
				t.Fatalf("D7: Order(%v): no place is %d", brief(l), place)
			}
			seen[place]++
			if i > 0 && gauge.Cmp(l[o[i-1]], l[place]) > 0 {
				t.Fatalf("D7: Order(%v): %d is ahead of %d", brief(l), o[i-1], place)
			}
		}
		for place, n := range seen {
			if n != 1 {
				t.Fatalf("D7: Order(%v): place %d is there %d times", brief(l), place, n)
			}
		}
	}
}

func TestRateOfNothingIsNoNumber(t *testing.T) {
	for _, n := range ints() {
		f := gauge.Rate(n, 0)
		if _, e := gauge.Middle([]float64{f}); e != api.ErrFloat {
			t.Errorf("D7: Rate(%d, 0): %v", n, f)
		}
	}
}

func TestListsAreNotWritten(t *testing.T) {
	calls := map[string]func(l []float64){
		"Order":  func(l []float64) { gauge.Order(l) },
		"Middle": func(l []float64) { gauge.Middle(l) },
		"Sum":    func(l []float64) { gauge.Sum(l) },
	}
	for name, call := range calls {
		for _, l := range lists() {
			long := append(slices.Clone(l), 9, nans()[0], -7, zero)
			was := bits(long)
			call(long[:len(l)])
			if !slices.Equal(bits(long), was) {
				t.Fatalf("R3: %s wrote into %v or behind it", name, brief(l))
			}
		}
	}
}

func TestAnswersHangOnArgumentsAlone(t *testing.T) {
	l := []float64{2, nan, 1, inf, zero}
	for range 3 {
		o := gauge.Order(l)
		if !slices.Equal(o, []int{1, 4, 2, 0, 3}) {
			t.Fatalf("R4: Order: %v", o)
		}
		for i := range o {
			o[i] = 77
		}
		checkMiddle(t, l, 1, api.OK)
		checkSum(t, l, inf)
		checkMiddle(t, nil, 0, api.ErrFloat)
		checkSum(t, nil, 0)
	}
}

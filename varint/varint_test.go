package varint_test

import (
	"math"
	"slices"
	"strings"
	"testing"

	"recension/api"
	"recension/varint"
)

// edges are numbers at which a digit more is needed, and their neighbours.
func edges() []int {
	l := []int{0, 1, 2, 63, 64, 65, 126, 127, 128, 129, 255, 256, 300, 1<<62 - 1, 1 << 62, 1<<62 + 1, math.MaxInt - 1, math.MaxInt}
	for k := 7; k < 63; k += 7 {
		l = append(l, 1<<k-1, 1<<k, 1<<k+1)
	}
	for k := range 63 {
		l = append(l, 1<<k, 1<<k-1)
	}
	return l
}

// negatives are numbers below 0.
func negatives() []int {
	return []int{-1, -2, -127, -128, -1 << 31, -1 << 62, -1<<62 - 1, math.MinInt + 1, math.MinInt}
}

// tails are what may stand behind a number.
func tails() []string {
	return []string{"", "\x00", "a", "ab", "\x80", "\x80\x00", "\xff\xff\xff\xff\xff\xff\xff\xff\xff\xff"}
}

// digits reckons A1 by division, another way than the program does.
func digits(n int) string {
	var b strings.Builder
	for n/128 > 0 {
		b.WriteByte(byte(128 + n%128))
		n /= 128
	}
	b.WriteByte(byte(n))
	return b.String()
}

// number takes a number as A2 tells: where it ends is sought first, then it is reckoned.
func number(s string) (int, string, api.Errno) {
	end := 0
	for end < len(s) && s[end] >= 128 {
		end++
	}
	if end >= 9 {
		return 0, "", api.ErrForm
	}
	if end == len(s) {
		return 0, "", api.ErrShort
	}
	if end > 0 && s[end] == 0 {
		return 0, "", api.ErrForm
	}
	n := 0
	for i := end; i >= 0; i-- {
		n = n*128 + int(s[i])%128
	}
	return n, s[end+1:], api.OK
}

// texts are all texts of at most two bytes, those of bytes at an edge that are longer, and rows of one byte.
func texts() []string {
	l := []string{""}
	for a := range 256 {
		l = append(l, string([]byte{byte(a)}))
		for b := range 256 {
			l = append(l, string([]byte{byte(a), byte(b)}))
		}
	}
	row := []string{""}
	for range 5 {
		var next []string
		for _, s := range row {
			for _, c := range []string{"\x00", "\x01", "\x02", "\x7f", "\x80", "\xff"} {
				next = append(next, s+c)
			}
		}
		l = append(l, next...)
		row = next
	}
	for k := range 12 {
		for _, head := range []string{"\x80", "\x81", "\xff"} {
			for _, end := range []string{"", "\x00", "\x01", "\x7f", "\x80", "\x00\x00", "\x01z", "\x00\xff"} {
				l = append(l, strings.Repeat(head, k)+end)
			}
		}
	}
	return l
}

func TestNatDigits(t *testing.T) {
	want := map[int]string{
		0:             "\x00",
		1:             "\x01",
		127:           "\x7f",
		128:           "\x80\x01",
		300:           "\xac\x02",
		16383:         "\xff\x7f",
		16384:         "\x80\x80\x01",
		1 << 62:       "\x80\x80\x80\x80\x80\x80\x80\x80\x40",
		math.MaxInt:   "\xff\xff\xff\xff\xff\xff\xff\xff\x7f",
		1<<56 - 1:     "\xff\xff\xff\xff\xff\xff\xff\x7f",
		1 << 56:       "\x80\x80\x80\x80\x80\x80\x80\x80\x01",
		api.MaxClock:  "\x80\x80\x80\x80\x80\x20",
		math.MaxInt32: "\xff\xff\xff\xff\x07",
	}
	for n, w := range want {
		if s, e := varint.Nat(n); s != w || e != api.OK {
			t.Errorf("A1: Nat(%d): %q %d, not %q", n, s, e, w)
		}
	}
	for _, n := range edges() {
		if s, e := varint.Nat(n); s != digits(n) || e != api.OK {
			t.Errorf("A1: Nat(%d): %q %d, not %q", n, s, e, digits(n))
		}
	}
	for n := range 70000 {
		if s, e := varint.Nat(n); s != digits(n) || e != api.OK {
			t.Fatalf("A1: Nat(%d): %q %d, not %q", n, s, e, digits(n))
		}
	}
}

func TestNatBelowZero(t *testing.T) {
	for _, n := range negatives() {
		if s, e := varint.Nat(n); s != "" || e != api.ErrArg {
			t.Errorf("A1: Nat(%d): %q %d", n, s, e)
		}
	}
}

func TestTakeOrdinary(t *testing.T) {
	for _, c := range []struct {
		s    string
		n    int
		rest string
	}{
		{"\x00", 0, ""},
		{"\x00\x00", 0, "\x00"},
		{"\x7f\x80", 127, "\x80"},
		{"\x80\x01", 128, ""},
		{"\xac\x02ab", 300, "ab"},
		{"\x80\x80\x80\x80\x80\x80\x80\x80\x40!", 1 << 62, "!"},
		{"\xff\xff\xff\xff\xff\xff\xff\xff\x7f\xff", math.MaxInt, "\xff"},
	} {
		if n, rest, e := varint.Take(c.s); n != c.n || rest != c.rest || e != api.OK {
			t.Errorf("A2: Take(%q): %d %q %d", c.s, n, rest, e)
		}
	}
}

func TestTakeErrors(t *testing.T) {
	for s, want := range map[string]api.Errno{
		"":                         api.ErrShort,
		"\x80":                     api.ErrShort,
		"\xff\xff":                 api.ErrShort,
		strings.Repeat("\x80", 8):  api.ErrShort,
		strings.Repeat("\x80", 9):  api.ErrForm,
		strings.Repeat("\xff", 9):  api.ErrForm,
		strings.Repeat("\xff", 30): api.ErrForm,
		"\xff\xff\xff\xff\xff\xff\xff\xff\x80\x01": api.ErrForm,
		"\x80\x00":                         api.ErrForm,
		"\xff\x00":                         api.ErrForm,
		"\x80\x00ab":                       api.ErrForm,
		"\x81\x82\x00":                     api.ErrForm,
		strings.Repeat("\x80", 8) + "\x00": api.ErrForm,
	} {
		if n, rest, e := varint.Take(s); n != 0 || rest != "" || e != want {
			t.Errorf("A2: Take(%q): %d %q %d, not %d", s, n, rest, e, want)
		}
	}
}

func TestTakeAllShortTexts(t *testing.T) {
	for _, s := range texts() {
		n, rest, e := varint.Take(s)
		wn, wrest, we := number(s)
		if n != wn || rest != wrest || e != we {
			t.Fatalf("A2: Take(%q): %d %q %d, not %d %q %d", s, n, rest, e, wn, wrest, we)
		}
	}
}

func TestIntAsNat(t *testing.T) {
	want := map[int]string{
		0:         "\x00",
		-1:        "\x01",
		1:         "\x02",
		-2:        "\x03",
		63:        "\x7e",
		-64:       "\x7f",
		64:        "\x80\x01",
		-65:       "\x81\x01",
		1<<62 - 1: "\xfe\xff\xff\xff\xff\xff\xff\xff\x7f",
		-1 << 62:  "\xff\xff\xff\xff\xff\xff\xff\xff\x7f",
	}
	for n, w := range want {
		if s, e := varint.Int(n); s != w || e != api.OK {
			t.Errorf("A3: Int(%d): %q %d, not %q", n, s, e, w)
		}
		if m, rest, e := varint.TakeInt(w + "z"); m != n || rest != "z" || e != api.OK {
			t.Errorf("A3: TakeInt(%q): %d %q %d, not %d", w, m, rest, e, n)
		}
	}
	for n := range 40000 {
		even, e := varint.Int(n)
		odd, f := varint.Int(-n - 1)
		if even != digits(2*n) || odd != digits(2*n+1) || e != api.OK || f != api.OK {
			t.Fatalf("A3: Int of %d and %d: %q %q", n, -n-1, even, odd)
		}
	}
}

func TestIntOutside(t *testing.T) {
	for _, n := range []int{1 << 62, 1<<62 + 1, math.MaxInt, -1<<62 - 1, math.MinInt + 1, math.MinInt} {
		if s, e := varint.Int(n); s != "" || e != api.ErrArg {
			t.Errorf("A3: Int(%d): %q %d", n, s, e)
		}
	}
}

func TestTakeIntIsTakeHalved(t *testing.T) {
	for _, s := range texts() {
		m, mrest, me := number(s)
		want := m / 2
		if m%2 == 1 {
			want = -want - 1
		}
		if n, rest, e := varint.TakeInt(s); n != want || rest != mrest || e != me {
			t.Fatalf("A3: TakeInt(%q): %d %q %d, not %d %q %d", s, n, rest, e, want, mrest, me)
		}
	}
}

// lengths are those of texts at which their length needs a digit more.
func lengths() []int { return []int{0, 1, 2, 127, 128, 129, 300, 16383, 16384, 70000} }

func TestBytesBehindLength(t *testing.T) {
	if s := varint.Bytes("ab"); s != "\x02ab" {
		t.Errorf("A4: Bytes(ab): %q", s)
	}
	if s := varint.Bytes("\x00\xff\x80é"); s != "\x05\x00\xff\x80é" {
		t.Errorf("A4: bytes that are no text: %q", s)
	}
	for _, n := range lengths() {
		text := strings.Repeat("x", n)
		s := varint.Bytes(text)
		if s != digits(n)+text {
			t.Errorf("A4: Bytes of %d bytes: %d", n, len(s))
		}
		for _, tail := range tails() {
			if got, rest, e := varint.TakeBytes(s + tail); got != text || rest != tail || e != api.OK {
				t.Errorf("A4: TakeBytes of %d bytes and %q: %d %q %d", n, tail, len(got), rest, e)
			}
		}
	}
}

func TestTakeBytesErrors(t *testing.T) {
	for s, want := range map[string]api.Errno{
		"":                                       api.ErrShort,
		"\x80":                                   api.ErrShort,
		"\x01":                                   api.ErrShort,
		"\x03ab":                                 api.ErrShort,
		"\x80\x01" + strings.Repeat("x", 127):    api.ErrShort,
		digits(math.MaxInt) + "abc":              api.ErrShort,
		digits(1<<62) + "abc":                    api.ErrShort,
		"\x82\x00ab":                             api.ErrForm,
		strings.Repeat("\x80", 9) + "\x01abcdef": api.ErrForm,
	} {
		if got, rest, e := varint.TakeBytes(s); got != "" || rest != "" || e != want {
			t.Errorf("A4: TakeBytes(%q): %q %q %d, not %d", s, got, rest, e, want)
		}
	}
}

// lists are lists of numbers that Nats takes.
func lists() [][]int {
	long := make([]int, 300)
	for i := range long {
		long[i] = i * i
	}
	return [][]int{nil, {}, {0}, {1, 300}, {0, 0, 0}, edges(), make([]int, 127), make([]int, 128), long}
}

// row reckons A5's text of a list.
func row(l []int) string {
	s := digits(len(l))
	for _, n := range l {
		s += digits(n)
	}
	return s
}

func TestNatsBehindCount(t *testing.T) {
	if s, e := varint.Nats([]int{1, 300}); s != "\x02\x01\xac\x02" || e != api.OK {
		t.Errorf("A5: %q %d", s, e)
	}
	if s, e := varint.Nats(nil); s != "\x00" || e != api.OK {
		t.Errorf("A5: no numbers: %q %d", s, e)
	}
	for _, l := range lists() {
		if s, e := varint.Nats(l); s != row(l) || e != api.OK {
			t.Errorf("A5: Nats(%v): %q %d", l, s, e)
		}
	}
	for _, n := range negatives() {
		for _, l := range [][]int{{n}, {n, 1}, {1, n}, {1, n, 2}} {
			if s, e := varint.Nats(l); s != "" || e != api.ErrArg {
				t.Errorf("A5: Nats(%v): %q %d", l, s, e)
			}
		}
	}
}

func TestTakeNatsOrdinary(t *testing.T) {
	for _, l := range lists() {
		for _, tail := range tails() {
			got, rest, e := varint.TakeNats(row(l) + tail)
			if !slices.Equal(got, l) || rest != tail || e != api.OK {
				t.Errorf("A5: TakeNats of %v and %q: %v %q %d", l, tail, got, rest, e)
			}
		}
	}
}

func TestTakeNatsErrors(t *testing.T) {
	for s, want := range map[string]api.Errno{
		"":                                  api.ErrShort,
		"\x80":                              api.ErrShort,
		"\x80\x00":                          api.ErrForm,
		strings.Repeat("\x80", 9) + "\x00":  api.ErrForm,
		"\x01":                              api.ErrShort,
		"\x05\x01":                          api.ErrShort,
		"\x03\x01\x02":                      api.ErrShort,
		"\x04\x80\x00\x01":                  api.ErrShort, // more than the bytes left comes ahead of the form
		"\x03\x80\x00\x01":                  api.ErrForm,
		"\x02\x01\x80":                      api.ErrShort,
		"\x02\x80\x01":                      api.ErrShort, // the bytes are used up ahead of the last number
		"\x02\x80\x00":                      api.ErrForm,
		"\x03\x01\x80\x00\x80":              api.ErrForm, // the first error, not the last one
		digits(math.MaxInt) + "\x01":        api.ErrShort,
		digits(1<<62) + "\x01\x02":          api.ErrShort,
		digits(1<<40) + "\x80\x00":          api.ErrShort,
		"\x0a" + strings.Repeat("\xff", 10): api.ErrForm,
	} {
		if l, rest, e := varint.TakeNats(s); len(l) != 0 || rest != "" || e != want {
			t.Errorf("A5: TakeNats(%q): %v %q %d, not %d", s, l, rest, e, want)
		}
	}
}

func TestPutIsTakenBack(t *testing.T) {
	for _, n := range edges() {
		nat, _ := varint.Nat(n)
		for _, tail := range tails() {
			if m, rest, e := varint.Take(nat + tail); m != n || rest != tail || e != api.OK {
				t.Errorf("A6: Take of Nat(%d) and %q: %d %q %d", n, tail, m, rest, e)
			}
			for _, k := range []int{n / 2, -(n / 2), -(n / 2) - 1} {
				s, _ := varint.Int(k)
				if m, rest, e := varint.TakeInt(s + tail); m != k || rest != tail || e != api.OK {
					t.Errorf("A6: TakeInt of Int(%d) and %q: %d %q %d", k, tail, m, rest, e)
				}
			}
		}
	}
}

func TestTakenIsPutAsItWas(t *testing.T) {
	for _, s := range texts() {
		if n, rest, e := varint.Take(s); e == api.OK {
			if put, f := varint.Nat(n); put+rest != s || f != api.OK {
				t.Fatalf("A6: Nat of what Take(%q) tells: %q %d", s, put, f)
			}
		}
		if n, rest, e := varint.TakeInt(s); e == api.OK {
			if put, f := varint.Int(n); put+rest != s || f != api.OK {
				t.Fatalf("A6: Int of what TakeInt(%q) tells: %q %d", s, put, f)
			}
		}
		if text, rest, e := varint.TakeBytes(s); e == api.OK && varint.Bytes(text)+rest != s {
			t.Fatalf("A6: Bytes of what TakeBytes(%q) tells: %q %q", s, text, rest)
		}
		if l, rest, e := varint.TakeNats(s); e == api.OK {
			if put, f := varint.Nats(l); put+rest != s || f != api.OK {
				t.Fatalf("A6: Nats of what TakeNats(%q) tells: %q %d", s, put, f)
			}
		}
	}
}

func TestCutIsTooShort(t *testing.T) {
	for _, n := range edges() {
		s, _ := varint.Nat(n)
		for i := range len(s) {
			if m, rest, e := varint.Take(s[:i]); m != 0 || rest != "" || e != api.ErrShort {
				t.Errorf("A6: Nat(%d) cut at %d: %d %q %d", n, i, m, rest, e)
			}
			if m, rest, e := varint.TakeInt(s[:i]); m != 0 || rest != "" || e != api.ErrShort {
				t.Errorf("A6: Int cut at %d: %d %q %d", i, m, rest, e)
			}
		}
	}
	for _, n := range []int{0, 1, 2, 127, 128, 300} {
		s := varint.Bytes(strings.Repeat("x", n))
		for i := range len(s) {
			if text, rest, e := varint.TakeBytes(s[:i]); text != "" || rest != "" || e != api.ErrShort {
				t.Errorf("A6: %d bytes cut at %d: %q %q %d", n, i, text, rest, e)
			}
		}
	}
	for _, l := range lists() {
		s, _ := varint.Nats(l)
		for i := range len(s) {
			if got, rest, e := varint.TakeNats(s[:i]); len(got) != 0 || rest != "" || e != api.ErrShort {
				t.Errorf("A6: Nats(%v) cut at %d: %v %q %d", l, i, got, rest, e)
			}
		}
	}
}

func TestNatsLeavesItsListAlone(t *testing.T) {
	whole := []int{1, 300, -7, 5}
	if s, e := varint.Nats(whole[:2]); s != "\x02\x01\xac\x02" || e != api.OK {
		t.Errorf("A5: %q %d", s, e)
	}
	if !slices.Equal(whole, []int{1, 300, -7, 5}) {
		t.Errorf("R3: %v", whole)
	}
}

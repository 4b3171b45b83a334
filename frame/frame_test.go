package frame_test

import (
	"encoding/binary"
	"hash/crc32"
	"math"
	"slices"
	"strings"
	"testing"

	"recension/api"
	"recension/crcsum"
	"recension/frame"
)

const most = 1 << 20 // how many bytes a frame's text has at most

// chaos is n numbers without a pattern, the same ones for the same seed.
func chaos(seed uint32, n int) []uint32 {
	l := make([]uint32, n)
	for i := range l {
		seed ^= seed << 13
		seed ^= seed >> 17
		seed ^= seed << 5
		l[i] = seed
	}
	return l
}

// chaosText is a text of n bytes without a pattern.
func chaosText(seed uint32, n int) string {
	b := make([]byte, n)
	for i, c := range chaos(seed, n) {
		b[i] = byte(c >> 11)
	}
	return string(b)
}

// texts are texts at the edges of a length's digits, and of all kinds of bytes.
func texts() []string {
	l := []string{"", "a", "\x00", "\xff", "ab", "123456789", "\x00\x00\x00\x00", "é€\U0001f600", "\xff\xfe\x80\xc0\x00", strings.Repeat("\x00", 300), "\x02ab\x9e\x83\x48\x6d"}
	for _, n := range []int{3, 4, 5, 126, 127, 128, 129, 255, 256, 16383, 16384, 16385} {
		l = append(l, chaosText(uint32(n), n))
	}
	for b := range 256 {
		l = append(l, string([]byte{byte(b)}))
	}
	return l
}

// others are tables of 256 numbers that are not layer 2's.
func others() [][]uint32 {
	turned := crcsum.Table()
	slices.Reverse(turned)
	return [][]uint32{make([]uint32, 256), turned, chaos(7, 256), slices.Repeat([]uint32{math.MaxUint32}, 256)}
}

// wrong are tables that do not have 256 numbers.
func wrong() [][]uint32 {
	table := crcsum.Table()
	return [][]uint32{nil, {}, {0}, table[:255], table[1:], append(crcsum.Table(), 0), append(crcsum.Table(), table...)}
}

// sum reckons a text's sum by a table, another way than the program does.
func sum(t []uint32, s string) uint32 {
	c := uint64(1)<<32 - 1
	for _, b := range []byte(s) {
		c = c/256 ^ uint64(t[c%256^uint64(b)])
	}
	return uint32(1<<32 - 1 - c)
}

// parcel is the frame of s, if its sum is c.
func parcel(s string, c uint32) string {
	b := append(binary.AppendUvarint(nil, uint64(len(s))), s...)
	return string(binary.BigEndian.AppendUint32(b, c))
}

// right is the frame of s by layer 2's table.
func right(s string) string { return parcel(s, crc32.ChecksumIEEE([]byte(s))) }

// cut is a text too long to be shown whole.
func cut(s string) string {
	if len(s) > 60 {
		return s[:60] + " ..."
	}
	return s
}

func checkOf(t *testing.T, table []uint32, s, want string, err api.Errno) {
	t.Helper()
	if x, e := frame.Of(table, s); x != want || e != err {
		t.Errorf("C1: Of(%q), %d bytes: %q %d, not %q %d", cut(s), len(s), cut(x), e, cut(want), err)
	}
}

func checkNext(t *testing.T, table []uint32, s, x, rest string, err api.Errno) {
	t.Helper()
	if gx, grest, e := frame.Next(table, s); gx != x || grest != rest || e != err {
		t.Errorf("C2: Next(%q), %d bytes: %q %q %d, not %q %q %d", cut(s), len(s), cut(gx), cut(grest), e, cut(x), cut(rest), err)
	}
}

func checkSplit(t *testing.T, table []uint32, s string, l []string, used int, err api.Errno) {
	t.Helper()
	if gl, gused, e := frame.Split(table, s); !slices.Equal(gl, l) || gused != used || e != err {
		t.Errorf("C3: Split(%q), %d bytes: %d texts, %d, %d, not %d, %d, %d", cut(s), len(s), len(gl), gused, e, len(l), used, err)
	}
}

func TestOf(t *testing.T) {
	table := crcsum.Table()
	checkOf(t, table, "", "\x00\x00\x00\x00\x00", api.OK)
	checkOf(t, table, "ab", "\x02ab\x9e\x83\x48\x6d", api.OK)
	checkOf(t, table, "123456789", "\x09123456789\xcb\xf4\x39\x26", api.OK)
	for _, s := range texts() {
		checkOf(t, table, s, right(s), api.OK)
	}
}

func TestOfOtherTables(t *testing.T) {
	for _, table := range others() {
		for _, s := range texts() {
			checkOf(t, table, s, parcel(s, sum(table, s)), api.OK)
		}
	}
}

func TestOfLong(t *testing.T) {
	table := crcsum.Table()
	for _, n := range []int{most - 1, most} {
		s := chaosText(5, n)
		checkOf(t, table, s, right(s), api.OK)
	}
	for _, n := range []int{most + 1, most + 2, 2 * most, 3 << 20} {
		checkOf(t, table, strings.Repeat("x", n), "", api.ErrLong)
	}
}

func TestOfWrongTables(t *testing.T) {
	for _, table := range wrong() {
		for _, n := range []int{0, 1, 200, most} {
			checkOf(t, table, strings.Repeat("x", n), "", api.ErrArg)
		}
		checkOf(t, table, strings.Repeat("x", most+1), "", api.ErrLong) // C1 names it ahead of Sum's error
	}
}

func TestNext(t *testing.T) {
	table := crcsum.Table()
	for _, s := range texts() {
		for _, rest := range []string{"", "z", "\x00", "\xff\xff", right("ab"), "\x80\x00"} {
			checkNext(t, table, right(s)+rest, s, rest, api.OK)
		}
	}
}

func TestNextOtherTables(t *testing.T) {
	for i, table := range others() {
		for _, s := range texts() {
			x := parcel(s, sum(table, s))
			checkNext(t, table, x+"z", s, "z", api.OK)
			if sum(table, s) != crc32.ChecksumIEEE([]byte(s)) {
				checkNext(t, table, right(s), "", "", api.ErrSum)
			}
		}
		if i > 0 {
			checkNext(t, table, parcel("abc", sum(others()[0], "abc")), "", "", api.ErrSum)
		}
	}
}

func TestNextWrongTables(t *testing.T) {
	for _, table := range wrong() {
		for _, s := range []string{"", right(""), right("ab"), right("ab")[:3], "\x80\x00", "\x81\x80\x40", "\x00\x00\x00\x00\x01"} {
			checkNext(t, table, s, "", "", api.ErrArg)
		}
	}
}

func TestNextLength(t *testing.T) {
	table := crcsum.Table()
	tail := strings.Repeat("\x00", 300)
	for s, err := range map[string]api.Errno{
		"":                         api.ErrShort,
		"\x80":                     api.ErrShort,
		"\xff\xff\xff":             api.ErrShort,
		"\x80\x80\x80\x80\x80\x80": api.ErrShort,
		"\x80\x00" + tail:          api.ErrForm,
		"\x81\x00a" + tail:         api.ErrForm,
		"\x80\x80\x00" + tail:      api.ErrForm,
		strings.Repeat("\xff", 9):  api.ErrForm,
		strings.Repeat("\x80", 8) + "\x00" + tail:          api.ErrForm,
		strings.Repeat("\xff", 8) + "\x7f":                 api.ErrLong, // the greatest number of all
		strings.Repeat("\xff", 8) + "\x7f" + tail:          api.ErrLong,
		"\xfc" + strings.Repeat("\xff", 7) + "\x7f" + tail: api.ErrLong,
		"\x80\x80\x80\x80\x08" + tail:                      api.ErrLong, // 2^31
		"\x81\x80\x40":                                     api.ErrLong,
		"\x81\x80\x40" + tail:                              api.ErrLong,
		"\x80\x80\x40":                                     api.ErrShort,
		"\x80\x80\x40" + tail:                              api.ErrShort,
		"\xff\xff\x3f" + tail:                              api.ErrShort,
	} {
		checkNext(t, table, s, "", "", err)
	}
}

func TestNextGreatestLength(t *testing.T) {
	table := crcsum.Table()
	for _, n := range []int{most - 1, most} {
		s := chaosText(9, n)
		x := right(s)
		checkNext(t, table, x, s, "", api.OK)
		checkNext(t, table, x+"ab", s, "ab", api.OK)
		checkNext(t, table, x[:len(x)-1], "", "", api.ErrShort)
		checkNext(t, table, x[:len(x)-5], "", "", api.ErrShort)
		checkNext(t, table, x[:len(x)-1]+string([]byte{x[len(x)-1] ^ 1}), "", "", api.ErrSum)
	}
	over := right(strings.Repeat("\x00", most+1)) // whole, but for the limit
	checkNext(t, table, over, "", "", api.ErrLong)
	checkNext(t, table, over+"z", "", "", api.ErrLong)
	checkNext(t, table, over[:len(over)-1], "", "", api.ErrLong)
	checkSplit(t, table, right("ab")+over, []string{"ab"}, 7, api.ErrLong)
}

func TestNextShort(t *testing.T) {
	table := crcsum.Table()
	for _, s := range []string{"", "a", "ab", "123456789", chaosText(3, 127), chaosText(4, 128), chaosText(6, 300)} {
		x := right(s)
		for n := range len(x) {
			checkNext(t, table, x[:n], "", "", api.ErrShort)
		}
		checkNext(t, table, x, s, "", api.OK)
	}
}

// TestNextSum turns each bit of frames behind the length: the sum tells it, wherever it is.
func TestNextSum(t *testing.T) {
	table := crcsum.Table()
	for _, s := range []string{"", "a", "ab", "123456789", chaosText(8, 60)} {
		x := right(s)
		for i := 1; i < len(x); i++ {
			for bit := range 8 {
				b := []byte(x + "rest")
				b[i] ^= 1 << bit
				checkNext(t, table, string(b), "", "", api.ErrSum)
			}
		}
	}
	checkNext(t, table, "\x02ab\x6d\x48\x83\x9e", "", "", api.ErrSum) // the four, turned round
	checkNext(t, table, "\x00\x00\x00\x00\x01", "", "", api.ErrSum)
	checkNext(t, table, "\x01\x00\x00\x00\x00\x00", "", "", api.ErrSum)
}

func TestSplit(t *testing.T) {
	table := crcsum.Table()
	a, b := right("123456789"), right("ab")
	checkSplit(t, table, "", nil, 0, api.OK)
	checkSplit(t, table, right(""), []string{""}, 5, api.OK)
	checkSplit(t, table, right("")+right("")+right(""), []string{"", "", ""}, 15, api.OK)
	checkSplit(t, table, b, []string{"ab"}, 7, api.OK)
	checkSplit(t, table, b+b[:1], []string{"ab"}, 7, api.ErrShort)
	checkSplit(t, table, a+b+a, []string{"123456789", "ab", "123456789"}, 35, api.OK)
	checkSplit(t, table, a+b+"\x01", []string{"123456789", "ab"}, 21, api.ErrShort)
	checkSplit(t, table, a+b+"\x80\x00"+a, []string{"123456789", "ab"}, 21, api.ErrForm)
	checkSplit(t, table, a+b+"\x81\x80\x40"+a, []string{"123456789", "ab"}, 21, api.ErrLong)
	checkSplit(t, table, a+"\x00\x00\x00\x00\x01"+b, []string{"123456789"}, 14, api.ErrSum)
	checkSplit(t, table, "z"+a, nil, 0, api.ErrShort)
	checkSplit(t, table, "\x80\x00", nil, 0, api.ErrForm)
	checkSplit(t, table, "\x81\x80\x40", nil, 0, api.ErrLong)
	checkSplit(t, table, "\x00\x00\x00\x00\x01"+a, nil, 0, api.ErrSum)
}

func TestSplitTables(t *testing.T) {
	for _, table := range wrong() {
		for _, s := range []string{"", right("ab"), right("ab") + "z", "\x80\x00"} {
			checkSplit(t, table, s, nil, 0, api.ErrArg)
		}
	}
	for _, table := range others() {
		x := parcel("abc", sum(table, "abc"))
		y := parcel("", sum(table, ""))
		checkSplit(t, table, x+y+x, []string{"abc", "", "abc"}, 21, api.OK)
		checkSplit(t, table, x+y+"\x00\x12\x34\x56\x78", []string{"abc", ""}, 13, api.ErrSum)
	}
}

func TestSplitMany(t *testing.T) {
	table := crcsum.Table()
	var b strings.Builder
	var l []string
	for i := range 20000 {
		l = append(l, chaosText(uint32(i)+1, i%40))
		b.WriteString(right(l[i]))
	}
	checkSplit(t, table, b.String(), l, b.Len(), api.OK)
	long := []string{chaosText(1, most), "", chaosText(2, most-1)}
	checkSplit(t, table, right(long[0])+right("")+right(long[2]), long, 2*most+18, api.OK)
}

// rows are texts whose frames are put one behind the other.
func rows() [][]string {
	return [][]string{nil, {""}, {"ab"}, {"", "", ""}, {"ab", "", "123456789"}, {right("ab"), "x", right("") + "\x07"}, {chaosText(1, 126), chaosText(2, 127), chaosText(3, 128), "z"}, {"\x00\x00\x00\x00\x00", "\x00"}, {chaosText(11, 700), chaosText(12, 5), ""}}
}

// TestFramesCut cuts frames that stand one behind the other anywhere: those that are whole are split.
func TestFramesCut(t *testing.T) {
	table := crcsum.Table()
	for _, l := range rows() {
		all := ""
		ends := map[int]int{0: 0} // where frames end, and how many are whole there
		for i, s := range l {
			x, e := frame.Of(table, s)
			if e != api.OK {
				t.Fatalf("C4: %q: %d", s, e)
			}
			all += x
			ends[len(all)] = i + 1
		}
		checkSplit(t, table, all, l, len(all), api.OK)
		whole, end := 0, 0
		for n := range len(all) + 1 {
			err := api.ErrShort
			if count, ok := ends[n]; ok {
				whole, end, err = count, n, api.OK
			}
			checkSplit(t, table, all[:n], l[:whole], end, err)
		}
	}
}

// TestSplitIsFramed frames again what is split, of texts that are frames, changed anywhere.
func TestSplitIsFramed(t *testing.T) {
	table := crcsum.Table()
	for _, l := range rows() {
		all := ""
		for _, s := range l {
			all += right(s)
		}
		for i := range len(all) {
			for _, b := range []byte{0, 1, 5, 0x7f, 0x80, 0xff} {
				s := all[:i] + string([]byte{b}) + all[i+1:]
				got, used, e := frame.Split(table, s)
				again := ""
				for _, x := range got {
					f, _ := frame.Of(table, x)
					again += f
				}
				if used < 0 || used > len(s) || again != s[:used] || (used == len(s)) != (e == api.OK) {
					t.Fatalf("C4: %q: %q, %d, %d", cut(s), got, used, e)
				}
				if _, _, next := frame.Next(table, s[used:]); e != api.OK && e != next {
					t.Fatalf("C3: %q: error %d, not %d", cut(s), e, next)
				}
			}
		}
	}
}

// TestAnyText splits texts that are no frames: nothing panics, all ends, and what is told fits.
func TestAnyText(t *testing.T) {
	table := crcsum.Table()
	for a := range 256 {
		for b := range 256 {
			s := string([]byte{byte(a), byte(b)})
			want := api.ErrShort
			if a >= 128 && b == 0 {
				want = api.ErrForm
			}
			checkNext(t, table, s, "", "", want)
			checkSplit(t, table, s, nil, 0, want)
		}
	}
	for i := range 3000 {
		s := chaosText(uint32(i)+1, i%50)
		l, used, e := frame.Split(table, s)
		if (e == api.OK) != (used == len(s)) || used > len(s) || (len(l) == 0) != (used == 0) {
			t.Errorf("C3: %q: %q, %d, %d", s, l, used, e)
		}
	}
}

func TestTableIsNotWritten(t *testing.T) {
	behind := append(crcsum.Table(), chaos(5, 60)...)
	before := slices.Clone(behind)
	for _, n := range []int{0, 255, 256, 257} {
		frame.Of(behind[:n], "123456789")
		frame.Next(behind[:n], right("ab"))
		frame.Split(behind[:n], right("ab")+right("c"))
	}
	if !slices.Equal(behind, before) {
		t.Error("R3: the table was written into")
	}
}

func TestNothingIsKept(t *testing.T) {
	table := crcsum.Table()
	s := right("ab") + right("") + "z"
	for range 3 {
		l, _, _ := frame.Split(table, s)
		clear(l)
		checkSplit(t, table, s, []string{"ab", ""}, 12, api.ErrShort)
		checkSplit(t, nil, s, nil, 0, api.ErrArg)
		checkNext(t, table, s, "ab", right("")+"z", api.OK)
		checkOf(t, make([]uint32, 256), "abc", "\x03abc\xff\xff\xff\x00", api.OK)
		checkOf(t, table, "ab", right("ab"), api.OK)
	}
}

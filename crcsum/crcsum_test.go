package crcsum_test

import (
	"encoding/binary"
	"hash/crc32"
	"math"
	"math/bits"
	"slices"
	"strings"
	"testing"

	"recension/api"
	"recension/crcsum"
)

// chaos is n numbers without a pattern, the same ones for the same seed.
func chaos(seed uint32, n int) []uint32 {
	l := make([]uint32, n)
	for i := range l {
		seed ^= seed << 13
		seed ^= seed >> 17
		seed ^= seed << 5
		l[i] = seed
	}
	return l
}

// chaosText is a text of n bytes without a pattern.
func chaosText(seed uint32, n int) string {
	b := make([]byte, n)
	for i, c := range chaos(seed, n) {
		b[i] = byte(c >> 11)
	}
	return string(b)
}

// texts are all texts of at most two bytes, and longer ones.
func texts() []string {
	l := []string{"", "123456789", "The quick brown fox jumps over the lazy dog", "é\u20ac\U0001f600", "\xff\xfe\x80\xc0\x00", "a\xffb", strings.Repeat("\x00", 300), strings.Repeat("\xff", 300), strings.Repeat("z", 4096)}
	for a := range 256 {
		l = append(l, string([]byte{byte(a)}))
		for b := range 256 {
			l = append(l, string([]byte{byte(a), byte(b)}))
		}
	}
	for n := range 70 {
		l = append(l, chaosText(uint32(n)+1, n), chaosText(uint32(n)+977, n))
	}
	return l
}

// tables are tables of 256 numbers that Table does not make.
func tables() [][]uint32 {
	count := make([]uint32, 256)
	high := make([]uint32, 256)
	for i := range count {
		count[i] = uint32(i)
		high[i] = math.MaxUint32 - uint32(i)<<24
	}
	turned := crcsum.Table()
	slices.Reverse(turned)
	changed := crcsum.Table()
	changed[255]++
	return [][]uint32{make([]uint32, 256), count, high, turned, changed, slices.Repeat([]uint32{math.MaxUint32}, 256), chaos(7, 256), chaos(99, 256)}
}

// sum reckons B2 in words of 64 bits, by division, another way than the program does.
func sum(t []uint32, s string) uint32 {
	c := uint64(1)<<32 - 1
	for _, b := range []byte(s) {
		c = c/256 ^ uint64(t[c%256^uint64(b)])
	}
	return uint32(1<<32 - 1 - c)
}

// long reckons the sum without a table, from the highest bit down: division of polynomials, the bits of a byte being turned round.
func long(s string) uint32 {
	c := uint32(math.MaxUint32)
	for _, b := range []byte(s) {
		c ^= uint32(bits.Reverse8(b)) << 24
		for range 8 {
			high := c >= 1<<31
			c += c
			if high {
				c ^= 0x04C11DB7
			}
		}
	}
	return ^bits.Reverse32(c)
}

func TestTableEnds(t *testing.T) {
	table := crcsum.Table()
	if len(table) != 256 {
		t.Fatalf("B1: %d numbers", len(table))
	}
	for n, want := range map[int]uint32{0: 0, 1: 0x77073096, 2: 0xEE0E612C, 8: 0x0EDB8832, 128: 0xEDB88320, 129: 0x9ABFB3B6, 254: 0x5A05DF1B, 255: 0x2D02EF8D} {
		if table[n] != want {
			t.Errorf("B1: Table()[%d] = %#x, not %#x", n, table[n], want)
		}
	}
}

func TestTableAll(t *testing.T) {
	table := crcsum.Table()
	want := crc32.MakeTable(crc32.IEEE)
	if !slices.Equal(table, want[:]) {
		t.Fatalf("B1: Table() = %x", table)
	}
	for n, c := range table { // by the word: the bits fall out one by one
		w := uint32(n)
		for range 8 {
			half := w / 2
			if w != 2*half {
				half ^= 0xEDB88320
			}
			w = half
		}
		if c != w {
			t.Errorf("B1: Table()[%d] = %#x, not %#x", n, c, w)
		}
	}
}

func TestTableIsNew(t *testing.T) {
	a := crcsum.Table()
	clear(a)
	b := crcsum.Table()
	if want := crc32.MakeTable(crc32.IEEE); !slices.Equal(b, want[:]) {
		t.Error("R4: a table that was written into comes out again")
	}
	if c, e := crcsum.Sum(b, "123456789"); c != 0xCBF43926 || e != api.OK {
		t.Errorf("R4: %#x %d", c, e)
	}
}

func TestSumKnown(t *testing.T) {
	table := crcsum.Table()
	for s, want := range map[string]uint32{"": 0, "123456789": 0xCBF43926, "a": 0xE8B7BE43, "\x00": 0xD202EF8D, "\xff": 0xFF000000, "The quick brown fox jumps over the lazy dog": 0x414FA339, strings.Repeat("\x00", 32): 0x190A55AD, "\xff\xff\xff\xff": 0xFFFFFFFF, "\x00\x00\x00\x00": 0x2144DF1C} {
		if c, e := crcsum.Sum(table, s); c != want || e != api.OK {
			t.Errorf("B2: Sum(%q) = %#x %d, not %#x", s, c, e, want)
		}
	}
}

func TestSumOfTexts(t *testing.T) {
	table := crcsum.Table()
	for _, s := range texts() {
		c, e := crcsum.Sum(table, s)
		if c != crc32.ChecksumIEEE([]byte(s)) || c != long(s) || c != sum(table, s) || e != api.OK {
			t.Errorf("B2: Sum(%q) = %#x %d, not %#x", s, c, e, long(s))
		}
	}
}

func TestSumOfLongText(t *testing.T) {
	s := chaosText(3, 1<<20)
	if c, e := crcsum.Sum(crcsum.Table(), s); c != crc32.ChecksumIEEE([]byte(s)) || e != api.OK {
		t.Errorf("B2: %#x %d", c, e)
	}
}

func TestSumOtherTables(t *testing.T) {
	for i, table := range tables() {
		for _, s := range texts() {
			if c, e := crcsum.Sum(table, s); c != sum(table, s) || e != api.OK {
				t.Fatalf("B2: table %d: Sum(%q) = %#x %d, not %#x", i, s, c, e, sum(table, s))
			}
		}
	}
	if c, e := crcsum.Sum(make([]uint32, 256), "abc"); c != 0xFFFFFF00 || e != api.OK {
		t.Errorf("B2: nothing but noughts: %#x %d", c, e)
	}
}

func TestSumWrongTables(t *testing.T) {
	table := crcsum.Table()
	wrong := [][]uint32{nil, {}, {0}, table[:1], table[:0], table[:255], table[1:], append(crcsum.Table(), 0), append(crcsum.Table(), table...), make([]uint32, 65536), chaos(1, 128), chaos(1, 257)}
	for _, l := range wrong {
		for _, s := range []string{"", "\x00", "a", "123456789", "\xff\xff\xff\xff\xff"} {
			if c, e := crcsum.Sum(l, s); c != 0 || e != api.ErrArg {
				t.Errorf("B2: %d numbers: Sum(%q) = %#x %d", len(l), s, c, e)
			}
		}
	}
}

func TestSumWritesNothing(t *testing.T) {
	behind := chaos(5, 300)
	before := slices.Clone(behind)
	for _, n := range []int{0, 255, 256, 257} {
		crcsum.Sum(behind[:n], "123456789")
	}
	if !slices.Equal(behind, before) {
		t.Error("R3: the table was written into")
	}
}

func TestSumKeepsNothing(t *testing.T) {
	table := crcsum.Table()
	for range 3 {
		if c, _ := crcsum.Sum(table, "123456789"); c != 0xCBF43926 {
			t.Errorf("R4: %#x", c)
		}
		crcsum.Sum(make([]uint32, 256), "x")
		crcsum.Sum(nil, "x")
	}
}

func TestBytes(t *testing.T) {
	for c, want := range map[uint32]string{0: "\x00\x00\x00\x00", 1: "\x00\x00\x00\x01", 255: "\x00\x00\x00\xff", 256: "\x00\x00\x01\x00", 0x01020304: "\x01\x02\x03\x04", 1 << 31: "\x80\x00\x00\x00", 1<<24 - 1: "\x00\xff\xff\xff", 0xCBF43926: "\xcb\xf4\x39\x26", math.MaxUint32: "\xff\xff\xff\xff", math.MaxUint32 - 1: "\xff\xff\xff\xfe"} {
		if s := crcsum.Bytes(c); s != want {
			t.Errorf("B3: Bytes(%#x) = %q, not %q", c, s, want)
		}
	}
	l := chaos(11, 5000)
	for k := range 32 {
		l = append(l, 1<<k, 1<<k-1, ^(uint32(1) << k))
	}
	for _, c := range l {
		if s := crcsum.Bytes(c); s != string(binary.BigEndian.AppendUint32(nil, c)) {
			t.Errorf("B3: Bytes(%#x) = %q", c, s)
		}
	}
}

// another is s, of which the byte at i is b.
func another(s string, i int, b byte) string {
	return s[:i] + string([]byte{b}) + s[i+1:]
}

func TestOneByteChanged(t *testing.T) {
	table := crcsum.Table()
	for _, s := range []string{"\x00", "\xff", "ab", "123456789", strings.Repeat("\x00", 40), strings.Repeat("\xff", 40), chaosText(21, 64), "é\u20ac"} {
		c, _ := crcsum.Sum(table, s)
		for i := range len(s) {
			for b := range 256 {
				if d, e := crcsum.Sum(table, another(s, i, byte(b))); e != api.OK || (c == d) != (s[i] == byte(b)) {
					t.Fatalf("B4: %q, byte %d as %d: %#x and %#x", s, i, b, c, d)
				}
			}
		}
	}
}

// turned is the bytes of three texts of one length, turned by one another.
func turned(a, b, c string) string {
	l := make([]byte, len(a))
	for i := range l {
		l[i] = a[i] ^ b[i] ^ c[i]
	}
	return string(l)
}

func TestThreeTexts(t *testing.T) {
	table := crcsum.Table()
	sum := func(s string) uint32 {
		c, e := crcsum.Sum(table, s)
		if e != api.OK {
			t.Fatalf("B2: %d", e)
		}
		return c
	}
	for n := range 50 {
		x := []string{strings.Repeat("\x00", n), strings.Repeat("\xff", n), strings.Repeat("q", n), chaosText(uint32(n)+1, n), chaosText(uint32(n)+500, n), chaosText(uint32(n)+9000, n)}
		for _, a := range x {
			for _, b := range x {
				for _, c := range x {
					if sum(a)^sum(b)^sum(c) != sum(turned(a, b, c)) {
						t.Fatalf("B4: %q, %q, %q", a, b, c)
					}
				}
			}
		}
	}
}

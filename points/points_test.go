package points_test

import (
	"fmt"
	"math"
	"regexp"
	"slices"
	"strings"
	"testing"

	"recension/api"
	"recension/points"
)

const lastPoint = 0x10FFFF

// edges are the first and the last code point of each number of bytes, those beside what is none, and some others.
func edges() []int {
	return []int{0, 1, 'A', 0x7F, 0x80, 0x81, 0xE9, 0x7FF, 0x800, 0x20AC, 0xD7FF, 0xE000, 0xFFFC, 0xFFFD, 0xFFFE, 0xFFFF, 0x10000, 0x1F600, lastPoint - 1, lastPoint}
}

// coded is c in so many bytes, by arithmetic: the form of UTF-8, whether c may stand in it or not.
func coded(c, bytes int) string {
	if bytes == 1 {
		return string([]byte{byte(c)})
	}
	b := make([]byte, bytes)
	for i := bytes - 1; i > 0; i-- {
		b[i] = byte(128 + c%64)
		c /= 64
	}
	b[0] = byte(256 - 256>>bytes + c)
	return string(b)
}

// size is in how few bytes there can be a code point c.
func size(c int) int {
	for n, first := range []int{128, 0x800, 0x10000} {
		if c < first {
			return n + 1
		}
	}
	return 4
}

// textOf is the text of these code points.
func textOf(l ...int) string {
	s := ""
	for _, c := range l {
		s += coded(c, size(c))
	}
	return s
}

// isPoint tells whether c is a code point that may stand in a text.
func isPoint(c int) bool { return c >= 0 && c < 0xD800 || c > 0xDFFF && c <= lastPoint }

// head is the code point at the head of s, and in how many bytes it stands there: in none, if there is none. It tries what may be there.
func head(s string) (c, n int) {
	for n := 1; n <= min(4, len(s)); n++ {
		c := int(s[0])
		if n > 1 {
			c = int(s[0]) % (256 >> (n + 1))
		}
		for i := 1; i < n; i++ {
			c = c*64 + int(s[i])%64
		}
		if isPoint(c) && size(c) == n && coded(c, n) == s[:n] {
			return c, n
		}
	}
	return 0, 0
}

// pieces reckons F1, byte by byte.
func pieces(s string) ([]string, api.Errno) {
	var l []string
	for s != "" {
		_, n := head(s)
		if n == 0 {
			return nil, 60
		}
		l = append(l, s[:n])
		s = s[n:]
	}
	return l, 0
}

// cut is a text too long to be shown whole.
func cut(s string) string {
	if len(s) > 60 {
		return s[:60] + " ..."
	}
	return s
}

// together are all texts of at most n of these pieces.
func together(n int, some ...string) []string {
	all := []string{""}
	for begin := 0; n > 0; n-- {
		end := len(all)
		for _, s := range all[begin:end] {
			for _, more := range some {
				all = append(all, s+more)
			}
		}
		begin = end
	}
	return all
}

// texts are lists of code points: those of the edges, alone and with others on both sides.
func texts() [][]int {
	all := [][]int{nil, edges(), {'a', 0xE9, 'b'}, {0xFFFD, 0xFFFD, 0xFFFD}}
	for _, a := range edges() {
		all = append(all, []int{a}, []int{a, a}, []int{'x', a, 'y'})
		for _, b := range []int{0, 'z', 0xE9, 0xFFFD, lastPoint} {
			all = append(all, []int{a, b}, []int{b, a, 0x20AC, b, a})
		}
	}
	return all
}

// noTexts are bytes that are no code points.
func noTexts() []string {
	all := []string{
		"\x80", "\xbf", "a\x80", "\x80a", "é\xa9", "😀\x80", "a\x80b", // goes on with none ahead
		"\xc3", "\xe2\x82", "\xe2", "\xf0\x9f\x98", "\xf0\x9f", "\xf0", "aé\xc3", "\xc3a", "\xe2\x82a", "\xe2\x82é", "\xf0\x9f\x98a", "\xef\xbf", "\xef\xbfa", "\xef\xbf\xbd\xef\xbf", // cut short
		"\xc0\x80", "\xc0\xbf", "\xc1\xbf", "\xc1\x81", "\xe0\x80\x80", "\xe0\x9f\xbf", "\xf0\x80\x80\x80", "\xf0\x8f\xbf\xbf", "\xf0\x8f\xbf\xbd", "\xc1a", // more bytes than there need be
		"\xed\xa0\x80", "\xed\xbf\xbf", "\xed\xa0\xbd\xed\xb8\x80", // from 0xD800 to 0xDFFF
		"\xf4\x90\x80\x80", "\xf5\x80\x80\x80", "\xf7\xbf\xbf\xbf", "\xf8\x88\x80\x80\x80", "\xfc\x84\x80\x80\x80\x80", "\xfe", "\xff", "\xff\xff\xff", // beyond the last one
		strings.Repeat("a", 5000) + "\xff", "\xff" + strings.Repeat("é", 5000),
	}
	for _, l := range texts() {
		all = append(all, "\xff"+textOf(l...), textOf(l...)+"\x80\xbf", textOf(l...)+"\xe2\x82")
	}
	return all
}

// some are the same code points and bytes in many orders, texts or not.
func some() []string {
	bytes := []string{"\x00", "A", "\x7f", "\x80", "\x8f", "\x90", "\x9f", "\xa0", "\xbd", "\xbf", "\xc0", "\xc1", "\xc2", "\xdf", "\xe0", "\xe1", "\xec", "\xed", "\xee", "\xef", "\xf0", "\xf1", "\xf3", "\xf4", "\xf5", "\xf7", "\xf8", "\xff"}
	return append(together(3, bytes...), together(6, "a", "\x80", "\xbf", "\xef", "\xf0")...)
}

func checkSplit(t *testing.T, s string) {
	t.Helper()
	want, err := pieces(s)
	if got, e := points.Split(s); !slices.Equal(got, want) || e != err {
		t.Errorf("F1: Split(%q): %q %d, not %q %d", cut(s), got, e, want, err)
	}
	if n, e := points.Len(s); n != len(want) || e != err {
		t.Errorf("F2: Len(%q): %d %d, not %d %d", cut(s), n, e, len(want), err)
	}
}

func TestErrors(t *testing.T) {
	if api.ErrText != 60 || api.ErrIdent != 61 || api.ErrIndex != 100 || api.OK != 0 {
		t.Error("the errors' numbers aren't the document's")
	}
}

func TestSplit(t *testing.T) {
	for s, want := range map[string][]string{
		"":                       nil,
		"aé":                     {"a", "é"},
		"a€😀\x00":                {"a", "€", "😀", "\x00"},
		"\u007f\u0080":           {"\x7f", "\xc2\x80"},
		"\u07ff\u0800":           {"\xdf\xbf", "\xe0\xa0\x80"},
		"\ud7ff\ue000":           {"\xed\x9f\xbf", "\xee\x80\x80"},
		"\uffff\U00010000":       {"\xef\xbf\xbf", "\xf0\x90\x80\x80"},
		"\U0010ffff":             {"\xf4\x8f\xbf\xbf"},
		"\ufffd":                 {"\xef\xbf\xbd"},
		"a\ufffd\ufffdb":         {"a", "\xef\xbf\xbd", "\xef\xbf\xbd", "b"},
		"e\u0301":                {"e", "\u0301"}, // one to the eye, two code points
		"\ufeffa":                {"\ufeff", "a"},
		"\r\n":                   {"\r", "\n"},
		"\U0001f468\u200d\u2642": {"\U0001f468", "\u200d", "\u2642"},
	} {
		if got, e := points.Split(s); !slices.Equal(got, want) || e != api.OK {
			t.Errorf("F1: Split(%q): %q %d", s, got, e)
		}
		if n, e := points.Len(s); n != len(want) || e != api.OK {
			t.Errorf("F2: Len(%q): %d %d", s, n, e)
		}
	}
	for _, l := range texts() {
		checkSplit(t, textOf(l...))
		if n, e := points.Len(textOf(l...)); n != len(l) || e != api.OK {
			t.Errorf("F2: Len of %x: %d %d", l, n, e)
		}
	}
}

func TestSplitOfNoText(t *testing.T) {
	for _, s := range noTexts() {
		if l, e := points.Split(s); len(l) != 0 || e != api.ErrText {
			t.Errorf("F1: Split(%q): %q %d", cut(s), l, e)
		}
		if n, e := points.Len(s); n != 0 || e != api.ErrText {
			t.Errorf("F2: Len(%q): %d %d", cut(s), n, e)
		}
	}
}

func TestSplitOfBytesInAllOrders(t *testing.T) {
	for a := range 256 {
		checkSplit(t, string([]byte{byte(a)}))
		for b := range 256 {
			checkSplit(t, string([]byte{byte(a), byte(b)}))
		}
	}
	for _, s := range some() {
		checkSplit(t, s)
	}
}

func TestEachCodePoint(t *testing.T) {
	for c := range 0x200000 {
		s := coded(c, size(c))
		want := 1
		if !isPoint(c) {
			want = 0
		}
		l, e := points.Split(s)
		if len(l) != want || (e == api.OK) != (want == 1) || want == 1 && l[0] != s || want == 0 && e != api.ErrText {
			t.Fatalf("F1: Split of %x: %q %d", c, l, e)
		}
		if n, e := points.Len(s); n != want || (e == api.OK) != (want == 1) {
			t.Fatalf("F2: Len of %x: %d %d", c, n, e)
		}
	}
}

func TestCodePointsInMoreBytes(t *testing.T) {
	for c := range 0x10000 {
		for n := size(c) + 1; n <= 4; n++ {
			if l, e := points.Split(coded(c, n)); len(l) != 0 || e != api.ErrText {
				t.Fatalf("F1: Split of %x in %d bytes: %q %d", c, n, l, e)
			}
		}
	}
	for _, c := range edges() {
		for _, n := range []int{5, 6} {
			if l, e := points.Split(coded(c, n)); len(l) != 0 || e != api.ErrText {
				t.Fatalf("F1: Split of %x in %d bytes: %q %d", c, n, l, e)
			}
		}
	}
}

func TestSplitOfLongTexts(t *testing.T) {
	for _, n := range []int{1999, 2000, 2001, 1 << 20} {
		for _, c := range []int{'a', 0xE9, 0xFFFD, lastPoint} {
			s := strings.Repeat(textOf(c), n)
			if l, e := points.Split(s); len(l) != n || strings.Join(l, "") != s || e != api.OK {
				t.Errorf("F1: Split of %d times %x: %d pieces, %d", n, c, len(l), e)
			}
			if got, e := points.Len(s); got != n || e != api.OK {
				t.Errorf("F2: Len of %d times %x: %d %d", n, c, got, e)
			}
			if got, e := points.Len(s + "\xc3"); got != 0 || e != api.ErrText {
				t.Errorf("F2: Len of %d times %x, and no text behind: %d %d", n, c, got, e)
			}
		}
	}
}

// places are those of n code points, and what lies beside them, near and far.
func places(n int) []int {
	l := []int{math.MinInt, -1 << 32, -2, -1}
	for i := range n + 3 {
		l = append(l, i)
	}
	return append(l, 1<<32, 1<<32+1, math.MaxInt-1, math.MaxInt)
}

func checkCut(t *testing.T, s string, from, to int, want string, err api.Errno) {
	t.Helper()
	if got, e := points.Cut(s, from, to); got != want || e != err {
		t.Errorf("F3: Cut(%q, %d, %d): %q %d, not %q %d", cut(s), from, to, got, e, want, err)
	}
}

func TestCut(t *testing.T) {
	for _, x := range []struct {
		from, to int
		want     string
		e        api.Errno
	}{
		{1, 2, "é", api.OK}, {0, 3, "aéb", api.OK}, {0, 0, "", api.OK}, {1, 1, "", api.OK}, {3, 3, "", api.OK}, {0, 1, "a", api.OK}, {2, 3, "b", api.OK},
		{-1, 1, "", api.ErrIndex}, {2, 1, "", api.ErrIndex}, {0, 4, "", api.ErrIndex}, {4, 4, "", api.ErrIndex}, {4, 3, "", api.ErrIndex}, {3, 4, "", api.ErrIndex},
		{-1, -1, "", api.ErrIndex}, {-2, -1, "", api.ErrIndex}, {0, -1, "", api.ErrIndex}, {-1, 4, "", api.ErrIndex},
	} {
		checkCut(t, "aéb", x.from, x.to, x.want, x.e)
	}
	checkCut(t, "", 0, 0, "", api.OK)
	checkCut(t, "", 0, 1, "", api.ErrIndex)
	checkCut(t, "", 1, 1, "", api.ErrIndex)
	checkCut(t, "", -1, 0, "", api.ErrIndex)
	for _, l := range texts() {
		for _, from := range places(len(l)) {
			for _, to := range places(len(l)) {
				if slices.IsSorted([]int{0, from, to, len(l)}) {
					checkCut(t, textOf(l...), from, to, textOf(l[from:to]...), api.OK)
				} else {
					checkCut(t, textOf(l...), from, to, "", api.ErrIndex)
				}
			}
		}
	}
}

func TestCutOfNoText(t *testing.T) {
	for _, s := range noTexts() {
		for _, x := range [][2]int{{0, 0}, {0, 1}, {-1, 0}, {1, 0}, {0, 1 << 40}, {math.MaxInt, math.MinInt}} { // with a place that may not be, too
			checkCut(t, s, x[0], x[1], "", api.ErrText)
		}
	}
}

func checkPut(t *testing.T, s string, at int, more, want string, err api.Errno) {
	t.Helper()
	if got, e := points.Put(s, at, more); got != want || e != err {
		t.Errorf("F4: Put(%q, %d, %q): %q %d, not %q %d", cut(s), at, cut(more), cut(got), e, cut(want), err)
	}
}

func TestPut(t *testing.T) {
	checkPut(t, "aé", 0, "X", "Xaé", api.OK)
	checkPut(t, "aé", 1, "X", "aXé", api.OK)
	checkPut(t, "aé", 2, "X", "aéX", api.OK)
	checkPut(t, "aé", 3, "X", "", api.ErrIndex)
	checkPut(t, "aé", -1, "X", "", api.ErrIndex)
	checkPut(t, "aé", 1, "", "aé", api.OK)
	checkPut(t, "aé", 3, "", "", api.ErrIndex)
	checkPut(t, "", 0, "", "", api.OK)
	checkPut(t, "", 0, "😀\ufffd", "😀\ufffd", api.OK)
	checkPut(t, "", 1, "a", "", api.ErrIndex)
	checkPut(t, "", -1, "", "", api.ErrIndex)
	checkPut(t, "a", 2, "bbb", "", api.ErrIndex) // the number of code points of s, not of more
	for _, l := range texts() {
		for _, more := range [][]int{nil, {'X'}, {0xE9, 0}, {0xFFFD, lastPoint, 0x20AC}} {
			for _, at := range places(len(l)) {
				if at >= 0 && at <= len(l) {
					checkPut(t, textOf(l...), at, textOf(more...), textOf(slices.Insert(slices.Clone(l), at, more...)...), api.OK)
				} else {
					checkPut(t, textOf(l...), at, textOf(more...), "", api.ErrIndex)
				}
			}
		}
	}
}

func TestPutOfNoText(t *testing.T) {
	for _, s := range noTexts() {
		for _, at := range []int{0, 1, -1, math.MinInt, math.MaxInt} { // with a place that may not be, too
			checkPut(t, s, at, "a", "", api.ErrText)
			checkPut(t, "aé", at, s, "", api.ErrText)
			checkPut(t, "", at, s, "", api.ErrText)
			checkPut(t, s, at, s, "", api.ErrText)
		}
	}
	checkPut(t, "a\xc3", 1, "\xa9", "", api.ErrText) // together they would be a text
	checkPut(t, "\xc3", 1, "\xa9", "", api.ErrText)
	checkPut(t, "\xa9", 0, "\xc3", "", api.ErrText)
}

// identifier is what F5 tells, as a pattern. It is of bytes and code points as they are: $ is the end of all.
func identifier() *regexp.Regexp { return regexp.MustCompile(`^[A-Za-z_][0-9A-Za-z_]*$`) }

// noIdents are texts and bytes that are no identifiers.
func noIdents() []string {
	return []string{
		"", " ", "1", "0", "9a", "0_", "1x", "é", "aé", "éa", "a b", "a ", " a", "a\n", "\na", "a\x00", "\x00", "a-b", "-", "a.b", "a$", "@", "[", "`", "{", "^", "/a", ":a", "a/", "a:", "a@", "a[", "a`", "a{", "a]", "a^",
		"\xff", "a\xff", "\xffa", "a\x80", "\ufffd", "a\ufffd", "\u017f", "a\u212a", "x\u0663", "x\u00aa", "\uff41", "x\uff11", "Ω", "😀", "a😀b", strings.Repeat("a", 5000) + "-", strings.Repeat("1", 100),
	}
}

// idents are identifiers.
func idents() []string {
	return []string{"x", "y", "_", "A", "Z", "a", "z", "__", "_1", "x1", "xx", "x_x", "Zz9", "aZ", "a0123456789", "_9", "if", "X", strings.Repeat("long_1", 500)}
}

func TestIdent(t *testing.T) {
	for _, s := range idents() {
		if !points.Ident(s) {
			t.Errorf("F5: %q is an identifier", cut(s))
		}
	}
	for _, s := range noIdents() {
		if points.Ident(s) {
			t.Errorf("F5: %q is no identifier", cut(s))
		}
	}
	pattern := identifier()
	for a := range 256 {
		for b := range 256 {
			for _, s := range []string{string([]byte{byte(a)}), string([]byte{byte(a), byte(b)}), string([]byte{'x', byte(a), byte(b)})} {
				if got := points.Ident(s); got != pattern.MatchString(s) {
					t.Errorf("F5: Ident(%q): %v", s, got)
				}
			}
		}
	}
	for c := range lastPoint + 1 {
		if !isPoint(c) {
			continue
		}
		for _, s := range []string{textOf(c), "x" + textOf(c)} {
			if got, want := points.Ident(s), c < 128 && pattern.MatchString(s); got != want {
				t.Fatalf("F5: Ident(%q): %v", s, got)
			}
		}
	}
}

// row is a row's parts, and where it stands.
type row struct {
	parts    string
	from, to int
}

// rowsOf are the rows of a text of these code points: each beginning is tried with each end.
func rowsOf(s string) []row {
	l, _ := pieces(s)
	isPart := func(i int) bool {
		return i >= 0 && i < len(l) && strings.Contains("0123456789ABCDEFGHIJKLMNOPQRSTUVWXYZ_abcdefghijklmnopqrstuvwxyz", l[i])
	}
	var rows []row
	for from := range l {
		if !isPart(from) || isPart(from-1) {
			continue
		}
		to := from
		for isPart(to) {
			to++
		}
		rows = append(rows, row{strings.Join(l[from:to], ""), from, to})
	}
	return rows
}

func checkFind(t *testing.T, s, name string, from, to []int, err api.Errno) {
	t.Helper()
	if f, u, e := points.Find(s, name); !slices.Equal(f, from) || !slices.Equal(u, to) || e != err {
		t.Errorf("F6: Find(%q, %q): %v %v %d, not %v %v %d", cut(s), cut(name), f, u, e, from, to, err)
	}
}

func checkReplace(t *testing.T, s, name, by, want string, n int, err api.Errno) {
	t.Helper()
	if got, m, e := points.Replace(s, name, by); got != want || m != n || e != err {
		t.Errorf("F7: Replace(%q, %q, %q): %q %d %d, not %q %d %d", cut(s), cut(name), cut(by), cut(got), m, e, cut(want), n, err)
	}
}

func TestFind(t *testing.T) {
	for _, x := range []struct {
		s, name  string
		from, to []int
	}{
		{"x x1 (x)", "x", []int{0, 6}, []int{1, 7}},
		{"", "x", nil, nil},
		{"x", "x", []int{0}, []int{1}},
		{"xx", "x", nil, nil},
		{"x", "xx", nil, nil},
		{"x x", "x", []int{0, 2}, []int{1, 3}}, // at the beginning, and at the end
		{" x ", "x", []int{1}, []int{2}},
		{"éx😀x€", "x", []int{1, 3}, []int{2, 4}}, // beside code points of more bytes: they are no parts
		{"éé x\ufffdlong😀", "long", []int{5}, []int{9}},
		{"\ufffdx\ufffd", "x", []int{1}, []int{2}},
		{"x1 1x 1x1 x", "x", []int{10}, []int{11}}, // ahead of a digit, and behind it
		{"_x x_ _x_ x", "x", []int{10}, []int{11}},
		{"ax xa axa x", "x", []int{10}, []int{11}},
		{"Xx xX x X", "x", []int{6}, []int{7}},
		{"12 x 3", "x", []int{3}, []int{4}},
		{"_ __ _", "_", []int{0, 5}, []int{1, 6}},
		{"x-x", "x", []int{0, 2}, []int{1, 3}},
		{"x\nx\x00x\tx", "x", []int{0, 2, 4, 6}, []int{1, 3, 5, 7}},
		{"a.long_1.b long_1", "long_1", []int{2, 11}, []int{8, 17}},
		{"long long_1 long_", "long_1", []int{5}, []int{11}},
		{"x\u017f x\u212a x\u0663 x", "x", []int{0, 3, 6, 9}, []int{1, 4, 7, 10}},
	} {
		checkFind(t, x.s, x.name, x.from, x.to, api.OK)
	}
}

func TestReplace(t *testing.T) {
	for _, x := range []struct {
		s, name, by, want string
		n                 int
	}{
		{"x x1", "x", "y", "y x1", 1},
		{"", "x", "y", "", 0},
		{"x", "x", "long_1", "long_1", 1},
		{"long_1", "long_1", "x", "x", 1},
		{"x x", "x", "y", "y y", 2},
		{"xx 1x x1", "x", "y", "xx 1x x1", 0},
		{"x-x", "x", "long", "long-long", 2},
		{"x x", "x", "x", "x x", 2},
		{"éx😀x€", "x", "xx", "éxx😀xx€", 2},
		{"\ufffdx\ufffd", "x", "_", "\ufffd_\ufffd", 1},
		{"x y", "x", "y", "y y", 1},
		{"x\x00x", "x", "y", "y\x00y", 2},
		{"a long a", "long", "a", "a a a", 1},
	} {
		checkReplace(t, x.s, x.name, x.by, x.want, x.n, api.OK)
	}
}

// small are many texts of few pieces: parts and others, of one byte and more.
func small() []string { return together(5, "x", "y", "1", "_", " ", "é", "😀") }

// names are identifiers, some of which are rows of those texts.
func names() []string { return []string{"x", "y", "_", "xx", "xy", "x1", "_x", "z"} }

func TestFindAndReplaceInSmallTexts(t *testing.T) {
	found := 0
	for _, s := range small() {
		rows := rowsOf(s)
		l, _ := pieces(s)
		for _, name := range names() {
			var from, to []int
			var want strings.Builder
			done := 0
			for _, r := range rows {
				if r.parts == name {
					from, to = append(from, r.from), append(to, r.to)
					want.WriteString(strings.Join(l[done:r.from], "") + "by_1")
					done = r.to
				}
			}
			want.WriteString(strings.Join(l[done:], ""))
			checkFind(t, s, name, from, to, api.OK)
			checkReplace(t, s, name, "by_1", want.String(), len(from), api.OK)
			found += len(from)
		}
	}
	if found < 10000 {
		t.Errorf("F6, F7: %d rows were found: they tell too little", found)
	}
}

func TestFindOfLongTexts(t *testing.T) {
	const n = 200000
	for _, line := range []string{"x é", "😀x\n", "1x x"} {
		s := strings.Repeat(line, n)
		from, to, e := points.Find(s, "x")
		if len(from) != len(to) || e != api.OK {
			t.Fatalf("F6: Find in many lines %q: %d %d %d", line, len(from), len(to), e)
		}
		for i := range from {
			if to[i]-from[i] != 1 {
				t.Fatalf("F6: Find in many lines %q: %d to %d", line, from[i], to[i])
			}
		}
		for _, by := range []string{"y", "a_long_one", "x"} {
			want := strings.Repeat(strings.ReplaceAll(line, "x", by), n)
			if line == "1x x" { // of one line and the next one the rows are together
				want = "1x " + strings.Repeat("x1x ", n-1) + by
			}
			if got, m, e := points.Replace(s, "x", by); got != want || m != len(from) || e != api.OK {
				t.Errorf("F7: Replace in many lines %q by %q: %d bytes, %d %d", line, by, len(got), m, e)
			}
		}
	}
}

func TestFindErrors(t *testing.T) {
	for _, s := range noTexts() {
		for _, name := range append(noIdents(), "x") { // with a name that is none, too
			checkFind(t, s, name, nil, nil, api.ErrText)
		}
	}
	for _, s := range []string{"", "x", "é 1 x", "\ufffd", "1", "a b"} {
		for _, name := range noIdents() {
			checkFind(t, s, name, nil, nil, api.ErrIdent)
		}
	}
	checkFind(t, "1 2", "1", nil, nil, api.ErrIdent) // a row, but no identifier
	checkFind(t, " ", "", nil, nil, api.ErrIdent)
}

func TestReplaceErrors(t *testing.T) {
	for _, s := range noTexts() {
		for _, x := range []string{"x", "", "1", "\xff", "é"} {
			for _, by := range []string{"y", "", "1", "\xff", "é"} { // all that is wrong at once, too
				checkReplace(t, s, x, by, "", 0, api.ErrText)
			}
		}
	}
	for _, s := range []string{"", "x", "x x y", "é 1 x", "y"} { // by may be none even where name is nowhere
		for _, no := range noIdents() {
			checkReplace(t, s, no, "y", "", 0, api.ErrIdent)
			checkReplace(t, s, "x", no, "", 0, api.ErrIdent)
			checkReplace(t, s, no, no, "", 0, api.ErrIdent)
		}
	}
}

func TestPiecesTogetherAreTheText(t *testing.T) {
	for _, s := range append(some(), small()...) {
		l, e := points.Split(s)
		if e != api.OK {
			continue
		}
		if n, _ := points.Len(s); strings.Join(l, "") != s || n != len(l) {
			t.Fatalf("F8: %q: %d pieces %q", s, n, l)
		}
		for i, piece := range l {
			if one, e := points.Cut(s, i, i+1); one != piece || e != api.OK {
				t.Fatalf("F8: %q: its piece %d is %q, cut it is %q %d", s, i, piece, one, e)
			}
		}
	}
}

func TestWhatIsPutCanBeCutOut(t *testing.T) {
	for _, l := range texts() {
		s := textOf(l...)
		for _, m := range texts() {
			more := textOf(m...)
			for at := range len(l) + 1 {
				both, e := points.Put(s, at, more)
				if n, _ := points.Len(both); n != len(l)+len(m) || e != api.OK {
					t.Fatalf("F8: %q in %q at %d: %q %d", more, s, at, both, e)
				}
				out, _ := points.Cut(both, at, at+len(m))
				ahead, _ := points.Cut(both, 0, at)
				behind, _ := points.Cut(both, at+len(m), len(l)+len(m))
				if out != more || ahead+behind != s {
					t.Fatalf("F8: %q in %q at %d: cut out %q, left %q and %q", more, s, at, out, ahead, behind)
				}
			}
		}
	}
}

func TestNamesReplacedAndBack(t *testing.T) {
	for _, s := range small() {
		for _, name := range names() {
			from, _, _ := points.Find(s, name)
			checkReplace(t, s, name, name, s, len(from), api.OK)
			for _, by := range []string{"nowhere", "n", "x", "_", "y1"} {
				there, n, e := points.Replace(s, name, by)
				if n != len(from) || e != api.OK {
					t.Fatalf("F8: %q for %q in %q: %d %d", by, name, s, n, e)
				}
				if by != name {
					checkFind(t, there, name, nil, nil, api.OK)
				}
				if is, _, _ := points.Find(s, by); len(is) == 0 {
					checkReplace(t, there, by, name, s, n, api.OK)
				}
			}
		}
	}
}

// all is what each call answers of these arguments.
func all(s, name string, a, b int) string {
	l, e1 := points.Split(s)
	n, e2 := points.Len(s)
	c, e3 := points.Cut(s, a, b)
	p, e4 := points.Put(s, a, name)
	from, to, e5 := points.Find(s, name)
	r, m, e6 := points.Replace(s, name, "y")
	return fmt.Sprintf("%q %d %d %d %q %d %q %d %v %v %v %d %q %d %d", l, e1, n, e2, c, e3, p, e4, points.Ident(name), from, to, e5, r, m, e6)
}

func TestAnswersHangOnArgumentsAlone(t *testing.T) {
	args := append([]string{"", "x", "x x1 (x)", "aéb", "é 😀 x"}, "\xff", "\xc3\xa9", "a\x80")
	answers := map[string]string{}
	for range 3 {
		for _, s := range args {
			for _, name := range args {
				for _, a := range []int{0, 1, -1} {
					at, got := fmt.Sprintf("%q %q %d", s, name, a), all(s, name, a, 2)
					if was, is := answers[at]; is && was != got {
						t.Fatalf("R4: %s: %s, then %s", at, was, got)
					}
					answers[at] = got
				}
			}
		}
	}
}

func TestListsAreOfTheirOwn(t *testing.T) {
	l, _ := points.Split("aéb")
	for i := range l {
		l[i] = "?"
	}
	checkSplit(t, "aéb")
	from, to, _ := points.Find("x x x", "x")
	for i := range from {
		from[i] = 77
	}
	from = append(from, 78, 79, 80)
	if !slices.Equal(to, []int{1, 3, 5}) || len(from) != 6 {
		t.Errorf("F6: the two lists are of one memory: %v", to)
	}
	for i := range to {
		to[i] = 99
	}
	checkFind(t, "x x x", "x", []int{0, 2, 4}, []int{1, 3, 5}, api.OK)
}

func FuzzTexts(f *testing.F) {
	for _, s := range []string{"", "aé", "x x1 (x)", "\xff", "\xef\xbf\xbd", "\xed\xa0\x80"} {
		f.Add(s, "x", 1, 2)
	}
	f.Fuzz(func(t *testing.T, s, name string, a, b int) {
		checkSplit(t, s)
		l, err := pieces(s)
		if err != api.OK {
			checkCut(t, s, a, b, "", err)
			checkFind(t, s, name, nil, nil, err)
			return
		}
		if slices.IsSorted([]int{0, a, b, len(l)}) {
			checkCut(t, s, a, b, strings.Join(l[a:b], ""), api.OK)
		} else {
			checkCut(t, s, a, b, "", api.ErrIndex)
		}
		if !identifier().MatchString(name) {
			checkFind(t, s, name, nil, nil, api.ErrIdent)
			return
		}
		var from, to []int
		for _, r := range rowsOf(s) {
			if r.parts == name {
				from, to = append(from, r.from), append(to, r.to)
			}
		}
		checkFind(t, s, name, from, to, api.OK)
	})
}

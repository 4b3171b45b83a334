package pathname_test

import (
	"math"
	"slices"
	"strconv"
	"strings"
	"testing"

	"recension/api"
	"recension/pathname"
)

const (
	lastT = 1 << 40 // as the chapters have them, not as api does
	lastR = 16
	lastI = 400000
	depth = 20
	width = 32
)

// idOf is what is named by these numbers.
func idOf(t, r, i int) api.Id { return api.Id{Stamp: api.Stamp{T: t, R: r}, I: i} }

// isSign tells of a byte, by its number, whether it may stand in a name.
func isSign(b byte) bool {
	switch {
	case b >= 48 && b <= 57, b >= 65 && b <= 90, b >= 97 && b <= 122:
		return true
	}
	return b == 45 || b == 46 || b == 95
}

// isName reckons G1: it counts the bytes that may stand in a name.
func isName(s string) bool {
	n := 0
	for _, b := range []byte(s) {
		if isSign(b) {
			n++
		}
	}
	dots := strings.Count(s, ".") == len(s) && len(s) < 3
	return n == len(s) && n > 0 && n <= width && !dots
}

// isNumber tells whether s is a number from least to most, as numbers are told in texts.
func isNumber(s string, least, most uint64) bool {
	n, err := strconv.ParseUint(s, 10, 63)
	return err == nil && n >= least && n <= most && (s == "0" || s[0] != '0')
}

// isSeen reckons G2: it seeks the last '~' and the dots from the end.
func isSeen(s string) bool {
	at := strings.LastIndexByte(s, '~')
	if at < 0 {
		return isName(s)
	}
	id := s[at+1:]
	last := strings.LastIndexByte(id, '.')
	if last < 0 {
		return false
	}
	first := strings.LastIndexByte(id[:last], '.')
	if first < 0 {
		return false
	}
	return isName(s[:at]) && isNumber(id[:first], 1, lastT) && isNumber(id[first+1:last], 1, lastR) && isNumber(id[last+1:], 0, lastI)
}

// split reckons G3, byte by byte, from the end of the path.
func split(p string) ([]string, api.Errno) {
	if p == "" || p[0] != '/' {
		return nil, api.ErrPath
	}
	if len(p) == 1 {
		return nil, api.OK
	}
	var l []string
	end := len(p)
	for i := len(p) - 1; i >= 0; i-- {
		if p[i] == '/' {
			l = append(l, p[i+1:end])
			end = i
		}
	}
	slices.Reverse(l)
	if slices.ContainsFunc(l, func(s string) bool { return !isSeen(s) }) {
		return nil, api.ErrName
	}
	if len(l) > depth {
		return nil, api.ErrLong
	}
	return l, api.OK
}

// chaos is n numbers without a pattern, the same ones for the same seed.
func chaos(seed uint64, n int) []uint64 {
	l := make([]uint64, n)
	for i := range l {
		seed ^= seed << 13
		seed ^= seed >> 7
		seed ^= seed << 17
		l[i] = seed
	}
	return l
}

// drawn is a text of n of the few, without a pattern.
func drawn(seed uint64, n int, few ...string) string {
	s := ""
	for _, c := range chaos(seed, n) {
		s += few[c>>20%uint64(len(few))]
	}
	return s
}

// names are names at the edges, and others.
func names() []string {
	return []string{"a", "Z", "0", "9", "-", "_", "...", "....", ".a", "a.", "..a", "-.", "f.go", "README.md", "3.1.0", "a.b-c_9", strings.Repeat("x", 31), strings.Repeat("x", width), strings.Repeat(".", width), strings.Repeat("Zz09.-_A", 4)}
}

// wrongNames are none.
func wrongNames() []string {
	return []string{"", ".", "..", strings.Repeat("x", width+1), strings.Repeat("x", 1000), strings.Repeat(".", width+1), "a b", " a", "a ", "a/b", "/", "a~", "~", "a~3.1.0", "\u00e9", "a\u00e9", "\u212a", "\xff", "a\x00", "\x00", "a\n", "a:", "@a", "a,b", "\ufffd", "\u0661"}
}

// rightIds are ids in order, all of them right: the least, the greatest and others.
func rightIds() []api.Id {
	var l []api.Id
	for _, t := range []int{1, 2, 9, 10, 11, 111, lastT - 1, lastT} {
		for _, r := range []int{1, 2, 11, lastR - 1, lastR} {
			for _, i := range []int{0, 1, 10, 111, lastI - 1, lastI} {
				l = append(l, idOf(t, r, i))
			}
		}
	}
	return l
}

// wrongIds are those just beyond the least and the greatest right ones, and others.
func wrongIds() []api.Id {
	return []api.Id{
		{}, idOf(0, 1, 0), idOf(1, 0, 0), idOf(1, 1, -1), idOf(-1, 1, 0), idOf(1, -1, 0),
		idOf(lastT+1, lastR, lastI), idOf(lastT, lastR+1, lastI), idOf(lastT, lastR, lastI+1),
		idOf(lastT+1, 1, 0), idOf(1, lastR+1, 0), idOf(1, 1, lastI+1), idOf(0, 0, 1),
		idOf(math.MaxInt, 1, 0), idOf(math.MinInt, 1, 0), idOf(1, math.MaxInt, 0), idOf(1, math.MinInt, 0), idOf(1, 1, math.MaxInt), idOf(1, 1, math.MinInt),
	}
}

// idText is x's text, right or not.
func idText(x api.Id) string {
	return strconv.Itoa(x.T) + "." + strconv.Itoa(x.R) + "." + strconv.Itoa(x.I)
}

// texts are texts of all kinds, drawn from pieces of what is seen and from others.
func texts() []string {
	all := append(names(), wrongNames()...)
	for n := range 3000 {
		seed := uint64(n + 1)
		all = append(all,
			drawn(seed, n%6, "a", ".", "~", "1", "0", "/"),
			"f~"+drawn(seed, n%8, "1", ".", "0"),
			drawn(seed, n%40, "a", "Z", "0", "-", "_", "."),
			drawn(seed, n%4, "a", "b~3.1.0", "~", ".", "1.1.1"),
			drawn(seed, n%34, "a", "b", "c", "d", "e", "f", "g", "h", "i", "j", "k", "l", "m", "n", "o", "p", "q", "r", "s", "t", "u", "v", "w", "x", "\x80"),
		)
	}
	return all
}

// paths are paths of all kinds, right or not.
func paths() []string {
	all := []string{"", "/", "a", "a/b", "/a", "/a/b", "/a/b~3.1.0", "/a/", "//", "//a", "/a//b", "///", ".", "/.", "/..", "/...", "/a/../b", "./a", " /a", "/a ", "\\a", "~", "/~", "\xff", "/\xff", "/\u00e9", "\u00e9/a"}
	for _, s := range append(names(), wrongNames()...) {
		all = append(all, s, "/"+s, "/a/"+s, "/"+s+"/a", "/"+s+"/", "/a~1.1.1/"+s+"/b", s+"/a")
	}
	for n := range 25 {
		all = append(all, strings.Repeat("/a", n), strings.Repeat("/", n), strings.Repeat("/b~3.1.0", n), strings.Repeat("/a", n)+"/", strings.Repeat("/a", n)+"/.", "/."+strings.Repeat("/a", n), strings.Repeat("/a", n)+"//"+strings.Repeat("a/", n)+"a")
	}
	for n := range 4000 {
		seed := uint64(n + 1)
		all = append(all, drawn(seed, n%9, "/", "a", "/b", ".", "~1.1.0"), drawn(seed, n%30, "/a", "/b~3.1.0", "/..."), drawn(seed, n%30, "/a", "/b", "/c", "/d", "/e", "/f", "/g", "/h", "/i", "/j", "/k", "/l", "/m", "/"))
	}
	return all
}

func TestNumbersOfErrors(t *testing.T) {
	for want, e := range map[int]api.Errno{0: api.OK, 1: api.ErrArg, 2: api.ErrLong, 70: api.ErrName, 71: api.ErrPath} {
		if int(e) != want {
			t.Errorf("G3, G5: the error's number is %d, not %d", e, want)
		}
	}
}

func TestNames(t *testing.T) {
	for _, s := range names() {
		if !pathname.Name(s) {
			t.Errorf("G1: %q is no name", s)
		}
	}
	for _, s := range wrongNames() {
		if pathname.Name(s) {
			t.Errorf("G1: %q is a name", s)
		}
	}
	for _, s := range texts() {
		if pathname.Name(s) != isName(s) {
			t.Errorf("G1: %q is a name: %t", s, pathname.Name(s))
		}
	}
	for n := range 100 {
		for _, s := range []string{"x", ".", "-", "9"} {
			s = strings.Repeat(s, n)
			if pathname.Name(s) != isName(s) {
				t.Errorf("G1: %q is a name: %t", s, pathname.Name(s))
			}
		}
	}
}

// Each byte there is stands alone, at the head, within and at the end of a name, and of the longest one.
func TestBytesOfNames(t *testing.T) {
	const long = "0123456789012345678901234567890" // 31 bytes
	for n := range 256 {
		b := string([]byte{byte(n)})
		want := isSign(byte(n))
		if got := pathname.Name(b); got != (want && b != ".") {
			t.Errorf("G1: the byte %d alone is a name: %t", n, got)
		}
		for _, s := range []string{b + "a", "a" + b, "a" + b + "a", b + "..", ".." + b, b + long, long + b, long[:7] + b + long[7:]} {
			if got := pathname.Name(s); got != want {
				t.Errorf("G1: %q is a name: %t", s, got)
			}
			if got := pathname.Seen(s); got != want {
				t.Errorf("G2: %q is seen: %t", s, got)
			}
		}
	}
	for _, s := range []string{"/", ":", "@", "[", "`", "{", ",", "^", "~", "+", "*"} { // beside the bytes that may be
		if pathname.Name(s) || pathname.Name("a"+s) || pathname.Name(s+"a") {
			t.Errorf("G1: %q may stand in a name", s)
		}
	}
	for c := rune(128); c < 0x3000; c++ { // also those whose last byte alone would be a letter's
		if s := string(c); pathname.Name(s) || pathname.Name("a"+s) || pathname.Seen(s) {
			t.Errorf("G1, G2: %q is a name", s)
		}
	}
}

func TestSeen(t *testing.T) {
	right := []string{"b~3.1.0", "a~1.1.0", "...~1.1.0", "1.1.1~1.1.1", "-~10.10.10", "a~1099511627776.16.400000", strings.Repeat("x", width) + "~1099511627776.16.400000"}
	for _, s := range append(right, names()...) {
		if !pathname.Seen(s) {
			t.Errorf("G2: %q is not seen", s)
		}
	}
	wrong := []string{
		"b~03.1.0", "b~3.01.0", "b~3.1.00", "b~00.1.0", "b~3.1.01", // noughts ahead
		"b~0.1.0", "b~3.0.0", "b~3.17.0", "b~3.1.400001", "b~1099511627777.1.0", "b~3.1.-1", "b~-3.1.0", "b~+3.1.0", // not right
		"b~99999999999999999999.1.0", "b~3.99999999999999999999.0", "b~18446744073709551617.1.0",
		"b~3.1", "b~3", "b~3.1.0.0", "b~3.1.0.", "b~.3.1.0", "b~3..0", "b~3.1.", "b~.1.0", "b~..", "b~.", // too few numbers, or too many
		"b~", "~3.1.0", "~", "~~", "b~~3.1.0", "~b~3.1.0", "b~3.1.0~", "b~3.1.0~3.1.0", "b~c~3.1.0", "~3.1.0~3.1.0", // nothing behind or ahead, two '~'
		".~3.1.0", "..~3.1.0", strings.Repeat("x", width+1) + "~3.1.0", "a b~3.1.0", "\u00e9~3.1.0", "a/b~3.1.0", // no name ahead
		"b~3.1.0 ", "b~ 3.1.0", "b ~3.1.0", "b~3,1,0", "b~a", "b~3.1.a", "b~\u0663.1.0", "b~0x3.1.0", "b~3.1.0\n", "b~1_0.1.0", "b/~3.1.0", "b~/3.1.0", "b~3.1.1e1",
	}
	for _, s := range append(wrong, ".", "..", "", strings.Repeat("x", width+1)) {
		if pathname.Seen(s) {
			t.Errorf("G2: %q is seen", s)
		}
	}
	for _, s := range slices.Concat(texts(), wrong, wrongNames()) {
		if pathname.Seen(s) != isSeen(s) {
			t.Errorf("G2: %q is seen: %t", s, pathname.Seen(s))
		}
	}
}

// What is seen has the text of a right id, whatever name is ahead of it; and none of another.
func TestSeenIds(t *testing.T) {
	for _, name := range names() {
		for _, x := range rightIds() {
			if s := name + "~" + idText(x); !pathname.Seen(s) || pathname.Name(s) {
				t.Errorf("G2, G1: %q is not seen, or is a name", s)
			}
		}
		for _, x := range wrongIds() {
			if s := name + "~" + idText(x); pathname.Seen(s) {
				t.Errorf("G2: %q is seen", s)
			}
		}
	}
	for _, name := range wrongNames() {
		if s := name + "~3.1.0"; pathname.Seen(s) {
			t.Errorf("G2: %q is seen", s)
		}
	}
}

func TestSplit(t *testing.T) {
	many := strings.Repeat("/a", depth)
	for p, want := range map[string][]string{
		"/":                         nil,
		"/a":                        {"a"},
		"/a/b~3.1.0":                {"a", "b~3.1.0"},
		"/.../..a/b/b":              {"...", "..a", "b", "b"},
		many:                        slices.Repeat([]string{"a"}, depth),
		many[2:] + "/b~1.16.400000": append(slices.Repeat([]string{"a"}, depth-1), "b~1.16.400000"),
	} {
		l, e := pathname.Split(p)
		if e != api.OK || !slices.Equal(l, want) {
			t.Errorf("G3: Split(%q): %q, %d", p, l, e)
		}
	}
	for p, want := range map[string]api.Errno{
		"": api.ErrPath, "a": api.ErrPath, "a/b": api.ErrPath, "a/": api.ErrPath, ".": api.ErrPath, " /a": api.ErrPath, "\u00e9": api.ErrPath, "~/a": api.ErrPath, "./.": api.ErrPath, "a//": api.ErrPath,
		"a" + many + "/a": api.ErrPath,
		"/a/":             api.ErrName, "//": api.ErrName, "//a": api.ErrName, "/a//b": api.ErrName, "/.": api.ErrName, "/a/..": api.ErrName, "/a/./b": api.ErrName, "/a b": api.ErrName, "/a~": api.ErrName, "/b~03.1.0": api.ErrName, "/b~0.1.0": api.ErrName, "/\xff": api.ErrName,
		many + "/": api.ErrName, "/." + many: api.ErrName, "/" + many: api.ErrName,
		many + "/a": api.ErrLong, many + "/b~3.1.0": api.ErrLong, many + many: api.ErrLong, many + many + many: api.ErrLong,
		many + "/a/": api.ErrName, many + "/a/.": api.ErrName, many + "/.": api.ErrName, many + many + "//a": api.ErrName, "/a~1.1" + many: api.ErrName, many + "/." + many: api.ErrName,
	} {
		l, e := pathname.Split(p)
		if e != want || len(l) != 0 {
			t.Errorf("G3: Split(%q): %q, %d, not %d", p, l, e, want)
		}
	}
}

func TestSplitOfAllKinds(t *testing.T) {
	told := map[api.Errno]int{}
	for _, p := range paths() {
		l, e := pathname.Split(p)
		want, wantE := split(p)
		told[wantE]++
		if e != wantE || !slices.Equal(l, want) {
			t.Errorf("G3: Split(%q): %q, %d, not %q, %d", p, l, e, want, wantE)
		}
	}
	for _, e := range []api.Errno{api.OK, api.ErrPath, api.ErrName, api.ErrLong} {
		if told[e] < 10 {
			t.Errorf("G3: the error %d is sought in vain", e)
		}
	}
}

func TestLongPaths(t *testing.T) {
	for p, want := range map[string]api.Errno{
		strings.Repeat("/a", 1<<20):        api.ErrLong,
		strings.Repeat("/a", 1<<20) + "/":  api.ErrName,
		strings.Repeat("/", 1<<20):         api.ErrName,
		"/" + strings.Repeat("a", 1<<20):   api.ErrName,
		strings.Repeat("a", 1<<20):         api.ErrPath,
		"/a~" + strings.Repeat(".", 1<<20): api.ErrName,
		"/a" + strings.Repeat("~", 1<<20):  api.ErrName,
	} {
		if l, e := pathname.Split(p); e != want || len(l) != 0 {
			t.Errorf("G3: Split of %d bytes, %q ahead: %d pieces, %d, not %d", len(p), p[:3], len(l), e, want)
		}
	}
}

func TestJoin(t *testing.T) {
	for _, c := range []struct {
		l    []string
		want string
	}{
		{nil, "/"}, {[]string{}, "/"}, {[]string{"a"}, "/a"}, {[]string{"a", "b~3.1.0"}, "/a/b~3.1.0"}, {slices.Repeat([]string{"a"}, depth), strings.Repeat("/a", depth)},
		{slices.Repeat([]string{"a"}, 100), strings.Repeat("/a", 100)}, {[]string{""}, "/"}, {[]string{"", ""}, "//"}, {[]string{"a", "", "b"}, "/a//b"}, // it asks nothing of the pieces
		{[]string{"/"}, "//"}, {[]string{".", "a b", "\xff"}, "/./a b/\xff"}, {[]string{"b", "a"}, "/b/a"},
	} {
		if got := pathname.Join(c.l); got != c.want {
			t.Errorf("G4: Join(%q): %q", c.l, got)
		}
	}
}

func TestClash(t *testing.T) {
	if s, e := pathname.Clash("b", idOf(3, 1, 0)); s != "b~3.1.0" || e != api.OK {
		t.Errorf("G5: Clash(b, 3.1.0): %q, %d", s, e)
	}
	if s, e := pathname.Clash("b", idOf(lastT, lastR, lastI)); s != "b~1099511627776.16.400000" || e != api.OK {
		t.Errorf("G5: Clash of the greatest id: %q, %d", s, e)
	}
	for _, name := range names() {
		for _, x := range rightIds() {
			if s, e := pathname.Clash(name, x); s != name+"~"+idText(x) || e != api.OK {
				t.Errorf("G5: Clash(%q, %v): %q, %d", name, x, s, e)
			}
		}
		for _, x := range wrongIds() {
			if s, e := pathname.Clash(name, x); s != "" || e != api.ErrArg {
				t.Errorf("G5: Clash(%q, %v): %q, %d", name, x, s, e)
			}
		}
	}
	for _, name := range wrongNames() {
		for _, x := range append(wrongIds(), rightIds()...) { // a wrong name is told first
			if s, e := pathname.Clash(name, x); s != "" || e != api.ErrName {
				t.Errorf("G5: Clash(%q, %v): %q, %d", name, x, s, e)
			}
		}
	}
}

func TestPathsAreSplitAndJoined(t *testing.T) {
	for _, p := range paths() {
		l, e := pathname.Split(p)
		if e == api.OK && pathname.Join(l) != p {
			t.Errorf("G6: %q is joined as %q", p, pathname.Join(l))
		}
	}
	pieces := names()
	for i, x := range rightIds() {
		s, _ := pathname.Clash(pieces[i%20], x)
		pieces = append(pieces, s)
	}
	for n := range depth + 1 {
		for at := 0; at+n <= len(pieces); at++ {
			l := pieces[at : at+n]
			back, e := pathname.Split(pathname.Join(l))
			if e != api.OK || !slices.Equal(back, l) {
				t.Errorf("G6: %q comes back as %q, %d", l, back, e)
			}
		}
	}
}

func TestClashesAreUnlike(t *testing.T) {
	type of struct {
		name string
		x    api.Id
	}
	told := map[string]of{}
	few := append(names(), "1", "1.1", "1.1.1", "11", "a1", "a.1")
	for _, name := range few {
		for _, x := range rightIds() {
			s, e := pathname.Clash(name, x)
			if e != api.OK || !pathname.Seen(s) || pathname.Name(s) {
				t.Errorf("G6: Clash(%q, %v) is not seen, or is a name: %q, %d", name, x, s, e)
			}
			if o, taken := told[s]; taken {
				t.Errorf("G6: %q is told of %v and of %v", s, o, of{name, x})
			}
			told[s] = of{name, x}
			if l, e := pathname.Split("/" + s + "/" + name); e != api.OK || !slices.Equal(l, []string{s, name}) {
				t.Errorf("G6: %q is split into %q, %d", "/"+s+"/"+name, l, e)
			}
		}
	}
}

func TestArgumentsAreNotWritten(t *testing.T) {
	all := []string{"a", "b", "c", "d"}
	if got := pathname.Join(all[:2]); got != "/a/b" || !slices.Equal(all, []string{"a", "b", "c", "d"}) {
		t.Errorf("R3: Join wrote: %q, %q", got, all)
	}
	l, _ := pathname.Split("/a/b")
	_ = append(l[:1], "x")
	if more, e := pathname.Split("/a/b"); e != api.OK || !slices.Equal(more, []string{"a", "b"}) { // R4: the same again, whatever became of the first
		t.Errorf("R4: Split(/a/b) is now %q, %d", more, e)
	}
}

func TestTheSameAnswerAgain(t *testing.T) {
	for _, p := range []string{"/a/b~3.1.0", "/a/", "a", strings.Repeat("/a", depth+1)} {
		l, e := pathname.Split(p)
		pathname.Split("/other/x")
		pathname.Name("..")
		pathname.Clash("b", idOf(1, 1, 1))
		if m, f := pathname.Split(p); f != e || !slices.Equal(l, m) {
			t.Errorf("R4: Split(%q): %q, %d and then %q, %d", p, l, e, m, f)
		}
	}
}

func FuzzSplit(f *testing.F) {
	for _, p := range []string{"/", "/a/b~3.1.0", "/a/", "a", "//", strings.Repeat("/a", depth+1)} {
		f.Add(p)
	}
	f.Fuzz(func(t *testing.T, p string) {
		l, e := pathname.Split(p)
		if want, wantE := split(p); e != wantE || !slices.Equal(l, want) {
			t.Errorf("G3: Split(%q): %q, %d", p, l, e)
		}
		if pathname.Name(p) != isName(p) || pathname.Seen(p) != isSeen(p) {
			t.Errorf("G1, G2: %q: %t, %t", p, pathname.Name(p), pathname.Seen(p))
		}
	})
}

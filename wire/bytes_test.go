package wire_test

import (
	"encoding/binary"
	"math"
	"reflect"
	"runtime"
	"strconv"
	"strings"
	"testing"

	"recension/api"
	"recension/wire"
)

// held holds bytes against Decode, as the promise's own words, reckoned another way, tell; and says whether they are a group's.
func held(t *testing.T, what, s string) bool {
	t.Helper()
	want, ok := groupOf(s)
	if !ok {
		empty(t, what, s)
		return false
	}
	if g, e := wire.Decode(s); e != api.OK || !same(g, want) {
		t.Errorf("H3: %s: Decode(%q): %d: %s", what, s, e, short(g))
	}
	if back, e := wire.Encode(want); e != api.OK || back != s {
		t.Errorf("H4: %s: %q comes back as %q, %d", what, s, back, e)
	}
	return true
}

// number is n as H2 tells it.
func number(n int) string { return string(binary.AppendUvarint(nil, uint64(n))) }

// exampleBytes are the bytes of a group with an operation of each kind.
func exampleBytes() string {
	s, _ := bytesOf(groupWith(opOf(api.Make), opOf(api.Move), opOf(api.Drop), shifted(opOf(api.Insert), 1), opOf(api.Erase)))
	return s
}

func TestCutBytes(t *testing.T) {
	for i, g := range rightGroups() {
		s, e := wire.Encode(g)
		if e != api.OK {
			t.Errorf("H2: group %d: %d", i, e)
		}
		step := 1
		if len(s) > 2000 {
			step = 97
		}
		for n := 0; n < len(s); n += step {
			if h, e := wire.Decode(s[:n]); e != api.ErrCode || !reflect.DeepEqual(h, api.Group{}) {
				t.Errorf("H3, H4: group %d, %d of %d bytes: %d, %s", i, n, len(s), e, short(h))
			}
		}
		unread(t, "without the last byte", s[:len(s)-1])
		unread(t, "without the first byte", s[1:])
	}
}

func TestBytesWithMoreBehind(t *testing.T) {
	for i, g := range rightGroups() {
		s, _ := wire.Encode(g)
		for _, tail := range []string{"\x00", "\x01", "x", "\x80", "\xff", "\x00\x00\x00\x00\x00", s} {
			if h, e := wire.Decode(s + tail); e != api.ErrCode || !reflect.DeepEqual(h, api.Group{}) {
				t.Errorf("H3, H4: group %d and %q: %d, %s", i, tail[:1], e, short(h))
			}
		}
	}
}

func TestShortBytes(t *testing.T) {
	unread(t, "no bytes", "")
	for a := range 256 {
		held(t, "a byte", string([]byte{byte(a)}))
		held(t, "a byte", strings.Repeat(string([]byte{byte(a)}), 17))
		for b := range 256 {
			held(t, "two bytes", string([]byte{byte(a), byte(b)}))
		}
	}
}

// A number in more bytes than it needs, in the place of each number that there is.
func TestLongNumbers(t *testing.T) {
	for _, g := range rightGroups() {
		l, _ := pieces(g)
		if len(l) > 600 {
			continue
		}
		for i, p := range l {
			if !p.number {
				continue
			}
			n := len(p.bytes) - 1
			long := p.bytes[:n] + string([]byte{p.bytes[n] + 128})
			for _, end := range []string{"\x00", "\x80\x00", strings.Repeat("\x80", 8) + "\x00", strings.Repeat("\x80", 20) + "\x00"} {
				l[i].bytes = long + end
				unread(t, "a number in too many bytes", joined(l))
			}
			l[i] = p
		}
	}
}

// Another number in the place of each one: too great, or a count of more than follows.
func TestOtherNumbers(t *testing.T) {
	others := []string{number(0), number(1), number(2), number(5), number(127), number(128), number(200), number(201), number(2001), number(lastT + 1), number(1 << 62), number(math.MaxInt), "\x80\x80\x80\x80\x80\x80\x80\x80\x80\x01", "\xff\xff\xff\xff\xff\xff\xff\xff\xff\x01", strings.Repeat("\xff", 12)}
	few, good := 0, 0
	for _, g := range rightGroups() {
		l, _ := pieces(g)
		if len(l) > 150 {
			continue
		}
		for i, p := range l {
			if !p.number {
				continue
			}
			for _, other := range others {
				l[i].bytes = other
				if held(t, "another number", joined(l)) {
					good++
				} else {
					few++
				}
			}
			l[i] = p
		}
	}
	if few < 1000 || good < 200 {
		t.Errorf("H3: sought in vain: %d, %d", few, good)
	}
}

// Counts of more than may be, and of more than follows, make no room.
func TestGreatCounts(t *testing.T) {
	head := "\x09\x04\x01\x00\x00\x00"                     // as far as the number of operations
	node := "\x01\x01\x00"                                 // a node that is ahead
	for _, n := range []int{2, 200, 201, 1 << 20, 1 << 30, // beside one operation
		1 << 40, 1 << 62, math.MaxInt} {
		unread(t, "operations", head+number(n))
		unread(t, "operations", head+number(n)+"\x02"+node+"\x00")
		unread(t, "dots", head+"\x01\x02"+node+number(n)+"\x01\x01")
		unread(t, "elements", head+"\x01\x04"+node+number(n)+"\x01\x01\x01")
		unread(t, "a name", head+"\x01\x01"+node+"\x00\x00\x00"+number(n)+"a")
		unread(t, "a text", head+"\x01\x03"+node+"\x00\x00\x00\x09\x04\x00"+number(n)+"a")
		unread(t, "Deps", "\x09\x04\x01"+number(n)+"\x01\x00\x00\x01\x02"+node+"\x00")
	}
	held(t, "one operation", head+"\x01\x02"+node+"\x00")
	if _, e := wire.Decode(head + "\x01\x02" + node + "\x00"); e != api.OK {
		t.Errorf("H3: one operation: %d", e)
	}
	// What is really there, but one too many.
	drop := "\x02" + node + "\x00"
	unread(t, "201 operations", head+number(201)+strings.Repeat(drop, 201))
	if _, e := wire.Decode(head + number(200) + strings.Repeat(drop, 200)); e != api.OK {
		t.Errorf("H3: 200 operations: %d", e)
	}
	var dots, elems strings.Builder
	for i := range 2001 {
		elems.WriteString("\x01\x01" + number(i))
		if i < 201 {
			dots.WriteString(number(i+1) + "\x01")
		}
	}
	late := strings.Replace(head, "\x09", "\xac\x02", 1) // 300
	unread(t, "201 dots", late+"\x01\x02"+node+number(201)+dots.String())
	unread(t, "2001 elements", late+"\x01\x04"+node+number(2001)+elems.String())
	if g, e := wire.Decode(late + "\x01\x02" + node + number(200) + strings.TrimSuffix(dots.String(), number(201)+"\x01")); e != api.OK || len(g.Ops[0].Dots) != 200 {
		t.Errorf("H3: 200 dots: %d", e)
	}
	if g, e := wire.Decode(late + "\x01\x04" + node + number(2000) + strings.TrimSuffix(elems.String(), "\x01\x01"+number(2000))); e != api.OK || len(g.Ops[0].Elems) != 2000 {
		t.Errorf("H3: 2000 elements: %d", e)
	}
}

// What is too much anyway is not gathered first.
func TestTooManyMakeNoRoom(t *testing.T) {
	node := "\x01\x01\x00"
	for what, s := range map[string]string{
		"operations": number(200000) + strings.Repeat("\x02"+node+"\x00", 200000),
		"dots":       "\x01\x02" + node + number(500000) + strings.Repeat("\x01\x01", 500000),
		"elements":   "\x01\x04" + node + number(300000) + strings.Repeat(node, 300000),
	} {
		s = "\x09\x04\x01\x00\x00\x00" + s
		var before, behind runtime.MemStats
		runtime.ReadMemStats(&before)
		_, e := wire.Decode(s)
		runtime.ReadMemStats(&behind)
		if e != api.ErrCode {
			t.Errorf("H3: too many %s: %d", what, e)
		}
		if room := behind.TotalAlloc - before.TotalAlloc; room > uint64(len(s)) {
			t.Errorf("H3: too many %s, of %d bytes, took %d bytes", what, len(s), room)
		}
	}
}

func TestDirsAsBytes(t *testing.T) {
	s := "\x09\x04\x01\x00\x00\x00\x01\x00\x09\x04\x00\x00\x00\x00\x01a"
	for n := range 300 {
		g, e := wire.Decode(s + number(n))
		if n < 2 && (e != api.OK || g.Ops[0].Dir != (n == 1)) {
			t.Errorf("H3: Dir %d: %d, %s", n, e, short(g))
		}
		if n > 1 && (e != api.ErrCode || !reflect.DeepEqual(g, api.Group{})) {
			t.Errorf("H3: Dir %d: %d, %s", n, e, short(g))
		}
	}
	for _, end := range []string{"", "\x80", "\x81\x00", "\x80\x00", number(1 << 40), number(math.MaxInt), "\x81\x80\x80\x80\x80\x80\x80\x80\x80\x01"} {
		unread(t, "Dir", s+end)
	}
	two := strings.Replace(s, "\x00\x00\x00\x01\x00\x09", "\x00\x00\x00\x02\x00\x09", 1) // a wrong one is not mended by what follows
	drop := "\x02\x01\x01\x00\x00"
	held(t, "Dir and another operation", two+"\x01"+drop)
	unread(t, "a wrong Dir and another operation", two+"\x02"+drop)
	unread(t, "Move has no Dir", strings.Replace(s, "\x01\x00\x09\x04\x00", "\x01\x01\x01\x01\x00", 1)+"\x01")
	held(t, "Move", strings.Replace(s, "\x01\x00\x09\x04\x00", "\x01\x01\x01\x01\x00", 1))
}

func TestKindsAsBytes(t *testing.T) {
	head := "\x09\x04\x01\x00\x00\x00\x01"
	for _, k := range []int{5, 6, 127, 128, 200, 256, 1 << 32, math.MaxInt} {
		for _, tail := range []string{"", "\x00", "\x00\x00\x00\x01a", "\x00\x00\x00\x01a\x01", "\x01\x01\x01", "\x01\x01\x01\x01"} {
			unread(t, "kind "+strconv.Itoa(k), head+number(k)+"\x01\x01\x00"+tail)
		}
	}
}

// Groups that may not be have bytes, too, but these are no group's.
func TestWrongGroupsAsBytes(t *testing.T) {
	n := 0
	for _, g := range rightGroups() {
		if weight(g) > 150 {
			continue
		}
		for _, h := range neighbours(g) {
			s, ok := bytesOf(h)
			if ok && !isGroup(h) {
				unread(t, "a group that may not be", s)
				n++
			}
		}
	}
	for _, wrong := range wrongs() {
		g := groupWith(api.Op{Kind: api.Make, Node: idOf(9, 4, 0), Name: "a"}, api.Op{Kind: api.Make, Node: idOf(9, 4, 1), Name: "b"})
		wrong(&g)
		if s, ok := bytesOf(g); ok {
			unread(t, "a group that may not be", s)
		}
	}
	if n < 1000 {
		t.Errorf("H3: only %d groups that may not be", n)
	}
}

// Each byte of a group's bytes is another one, is not there, or stands twice.
func TestEachByte(t *testing.T) {
	all := []string{exampleBytes()}
	for seed := range uint64(4) {
		s, _ := bytesOf(drawnGroup(seed))
		all = append(all, s)
	}
	good := 0
	for _, s := range all {
		for i := range min(len(s), 250) {
			for b := range 256 {
				other := s[:i] + string([]byte{byte(b)}) + s[i+1:]
				if held(t, "another byte", other) && other != s {
					good++
				}
			}
			held(t, "a byte that is not there", s[:i]+s[i+1:])
			held(t, "a byte twice", s[:i+1]+s[i:])
			held(t, "a nought more", s[:i]+"\x00"+s[i:])
		}
	}
	if good < 100 {
		t.Errorf("H3: sought in vain: %d", good)
	}
}

func TestBytesWithoutPattern(t *testing.T) {
	s := exampleBytes()
	for seed := range uint64(2000) {
		dice := chaos(seed+1, 40)
		b := []byte(s)
		for i := 0; i < 2*int(1+seed%5); i += 2 {
			b[dice[i]%len(b)] = byte(dice[i+1])
		}
		held(t, "some other bytes", string(b))
		row := make([]byte, 0, 40)
		for _, n := range dice[:10+seed%30] {
			row = append(row, byte(n%int(2+seed%200)))
		}
		held(t, "bytes without a pattern", string(row))
		held(t, "bytes without a pattern behind a head", "\x09\x04\x01\x00\x00\x00"+string(row))
	}
}

func TestDrawnGroupsComeBack(t *testing.T) {
	for seed := range uint64(3000) {
		taken(t, "a group without a pattern", drawnGroup(seed))
	}
}

// What comes out has nothing but what the bytes tell.
func TestDecodedFieldsAreEmpty(t *testing.T) {
	g, e := wire.Decode(exampleBytes())
	if e != api.OK {
		t.Fatalf("H3: %d", e)
	}
	for _, o := range g.Ops {
		if !bare(o) {
			t.Errorf("R2: %+v", o)
		}
	}
	if len(g.Ops) != 5 || !g.Ops[0].Dir || g.Ops[1].Dir {
		t.Errorf("H3: %s", short(g))
	}
}

func TestArgumentsAreNotWritten(t *testing.T) {
	for _, g := range append(rightGroups(), groupWith(api.Op{Kind: 5, Elems: []api.Id{{}}})) {
		deps := append(copied(g).Deps, 77, 78)
		ops := append(copied(g).Ops, api.Op{Kind: 9, Name: "behind"})
		h := g
		h.Deps, h.Ops = deps[:len(g.Deps)], ops[:len(g.Ops)]
		wire.Check(h)
		s, _ := wire.Encode(h)
		back, _ := wire.Decode(s)
		if !same(h, g) || deps[len(g.Deps)] != 77 || deps[len(g.Deps)+1] != 78 || !reflect.DeepEqual(ops[len(g.Ops)], api.Op{Kind: 9, Name: "behind"}) {
			t.Errorf("R3: written: %s", short(h))
		}
		for i := range back.Deps { // a copy is another one
			back.Deps[i] = -1
		}
		for i := range back.Ops {
			back.Ops[i] = api.Op{}
		}
		if !same(h, g) {
			t.Errorf("R3: written by way of an answer: %s", short(h))
		}
	}
}

func TestTheSameAnswerAgain(t *testing.T) {
	for _, g := range rightGroups() {
		s, e := wire.Encode(g)
		back, f := wire.Decode(s)
		wire.Decode(s[:len(s)/2])
		wire.Check(api.Group{})
		wire.Encode(groupWith(opOf(api.Insert)))
		if s2, e2 := wire.Encode(g); s2 != s || e2 != e {
			t.Errorf("R4: Encode: %q, then %q", s, s2)
		}
		if back2, f2 := wire.Decode(s); f2 != f || !same(back, back2) {
			t.Errorf("R4: Decode: %s, then %s", short(back), short(back2))
		}
	}
}

func FuzzDecode(f *testing.F) {
	for _, g := range rightGroups() {
		if s, ok := bytesOf(g); ok && len(s) < 2000 {
			f.Add(s)
		}
	}
	f.Add("")
	f.Fuzz(func(t *testing.T, s string) {
		held(t, "fuzz", s)
	})
}

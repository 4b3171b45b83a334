package wire_test

import (
	"math"
	"reflect"
	"slices"
	"strconv"
	"strings"
	"testing"

	"recension/api"
	"recension/wire"
)

// refused holds g against Check and Encode, which are to tell ErrCode and nothing else; and its bytes, if it has any, against Decode.
func refused(t *testing.T, what string, g api.Group) {
	t.Helper()
	if isGroup(g) {
		t.Errorf("%s: the test takes it for a group: %s", what, short(g))
	}
	if e := wire.Check(g); e != api.ErrCode {
		t.Errorf("H1: %s: Check: %d: %s", what, e, short(g))
	}
	if s, e := wire.Encode(g); s != "" || e != api.ErrCode {
		t.Errorf("H2: %s: Encode: %d bytes, %d: %s", what, len(s), e, short(g))
	}
	if s, ok := bytesOf(g); ok {
		unread(t, what, s)
	}
}

// unread holds bytes that are no group's against Decode.
func unread(t *testing.T, what, s string) {
	t.Helper()
	if _, ok := groupOf(s); ok {
		t.Errorf("%s: the test takes these bytes for a group's: %q", what, s)
	}
	empty(t, what, s)
}

// empty tells that Decode answers an error, and nothing else.
func empty(t *testing.T, what, s string) {
	t.Helper()
	if g, e := wire.Decode(s); e != api.ErrCode || !reflect.DeepEqual(g, api.Group{}) {
		t.Errorf("H3: %s: Decode of %d bytes: %d: %s", what, len(s), e, short(g))
	}
}

// taken holds a group that may be against all three calls.
func taken(t *testing.T, what string, g api.Group) {
	t.Helper()
	if !isGroup(g) {
		t.Errorf("%s: the test takes it for none: %s", what, short(g))
	}
	if e := wire.Check(g); e != api.OK {
		t.Errorf("H1: %s: Check: %d: %s", what, e, short(g))
	}
	want, _ := bytesOf(g)
	s, e := wire.Encode(g)
	if s != want || e != api.OK {
		t.Errorf("H2: %s: Encode: %q, %d, not %q", what, s, e, want)
	}
	back, e := wire.Decode(want)
	if e != api.OK || !same(back, g) {
		t.Errorf("H3, H4: %s: Decode: %d: %s, not %s", what, e, short(back), short(g))
	}
}

// judged is refused or taken, as the promise's own words, reckoned another way, tell.
func judged(t *testing.T, what string, g api.Group) {
	t.Helper()
	if isGroup(g) {
		taken(t, what, g)
	} else {
		refused(t, what, g)
	}
}

func TestNumbers(t *testing.T) {
	for want, n := range map[int]int{0: int(api.OK), 80: int(api.ErrCode)} {
		if n != want {
			t.Errorf("H1: the error's number is %d, not %d", n, want)
		}
	}
}

func TestBytesOfTheExample(t *testing.T) {
	g := api.Group{Stamp: api.Stamp{T: 1, R: 1}, N: 1, Ops: []api.Op{{Kind: 0, Node: idOf(1, 1, 0), Name: "a", Dir: true}}}
	want := "\x01\x01\x01\x00\x00\x00\x01\x00\x01\x01\x00\x00\x00\x00\x01a\x01"
	if s, e := wire.Encode(g); s != want || e != api.OK {
		t.Errorf("H2: %q, %d", s, e)
	}
	if back, e := wire.Decode(want); e != api.OK || !same(back, g) {
		t.Errorf("H3: %s, %d", short(back), e)
	}
}

// Each kind's bytes, written out.
func TestBytesOfKinds(t *testing.T) {
	head := "\xac\x02\x02\x03\x03\x01\x02\x80\x01\x00\x00\x01" // T 300, R 2, N 3, Deps {1, 2, 128}, no Undo, one operation
	for _, c := range []struct {
		op   api.Op
		tail string
	}{
		{api.Op{Kind: 0, Node: idOf(300, 2, 0), Parent: idOf(299, 16, 129), Name: "a.b", Dir: false}, "\x00\xac\x02\x02\x00\xab\x02\x10\x81\x01\x03a.b\x00"},
		{api.Op{Kind: 0, Node: idOf(300, 2, 0), Name: "-", Dir: true}, "\x00\xac\x02\x02\x00\x00\x00\x00\x01-\x01"},
		{api.Op{Kind: 1, Node: idOf(4, 5, 6), Parent: idOf(7, 8, 9), Name: "zz"}, "\x01\x04\x05\x06\x07\x08\x09\x02zz"},
		{api.Op{Kind: 2, Node: idOf(4, 5, 6)}, "\x02\x04\x05\x06\x00"},
		{api.Op{Kind: 2, Node: idOf(4, 5, 6), Dots: []api.Stamp{{T: 1, R: 16}, {T: 300, R: 2}}}, "\x02\x04\x05\x06\x02\x01\x10\xac\x02\x02"},
		{api.Op{Kind: 3, Node: idOf(4, 5, 6), After: idOf(1, 2, 3), Elem: idOf(300, 2, 0), Text: "\u00e9x"}, "\x03\x04\x05\x06\x01\x02\x03\xac\x02\x02\x00\x03\u00e9x"},
		{api.Op{Kind: 4, Node: idOf(4, 5, 6), Elems: []api.Id{idOf(1, 1, 2), idOf(1, 2, 1)}}, "\x04\x04\x05\x06\x02\x01\x01\x02\x01\x02\x01"},
	} {
		g := api.Group{Stamp: api.Stamp{T: 300, R: 2}, N: 3, Deps: []int{1, 2, 128}, Ops: []api.Op{c.op}}
		if s, e := wire.Encode(g); s != head+c.tail || e != api.OK {
			t.Errorf("H2: kind %d: %q, %d, not %q", c.op.Kind, s, e, head+c.tail)
		}
		taken(t, "a kind's bytes", g)
	}
	undo := api.Group{Stamp: api.Stamp{T: 2, R: 3}, N: 2, Deps: []int{0, 0, 1}, Undo: api.Stamp{T: 2, R: 1}}
	if s, e := wire.Encode(undo); s != "\x02\x03\x02\x03\x00\x00\x01\x02\x01\x00" || e != api.OK {
		t.Errorf("H2: undoing: %q, %d", s, e)
	}
	taken(t, "undoing", undo)
}

func TestOrdinaryGroups(t *testing.T) {
	for i, g := range rightGroups() {
		taken(t, "group "+strconv.Itoa(i), g)
	}
}

func TestStamps(t *testing.T) {
	for _, s := range []api.Stamp{{T: 1, R: 1}, {T: 1, R: lastR}, {T: lastT, R: 1}, {T: lastT, R: lastR}, {T: 2, R: 3}} {
		g := api.Group{Stamp: s, N: 1, Ops: []api.Op{{Kind: api.Make, Node: api.Id{Stamp: s}, Name: "a"}}}
		taken(t, "a right stamp", g)
	}
	for _, s := range []api.Stamp{{}, {T: 0, R: 1}, {T: 1, R: 0}, {T: 0, R: lastR}, {T: lastT, R: 0}, {T: lastT + 1, R: 1}, {T: lastT + 1, R: lastR}, {T: 1, R: lastR + 1}, {T: lastT, R: lastR + 1}, {T: -1, R: 1}, {T: 1, R: -1}, {T: math.MinInt, R: 1}, {T: 1, R: math.MinInt}, {T: math.MaxInt, R: math.MaxInt}} {
		refused(t, "a stamp that is not right", api.Group{Stamp: s, N: 1, Ops: []api.Op{{Kind: api.Make, Node: api.Id{Stamp: s}, Name: "a"}}})
		refused(t, "a stamp that is not right, undoing", api.Group{Stamp: s, N: 1, Undo: api.Stamp{T: 1, R: 1}})
	}
}

// numbered is a group of replica r.
func numbered(r, n int, deps ...int) api.Group {
	return api.Group{Stamp: api.Stamp{T: 9, R: r}, N: n, Deps: deps, Ops: []api.Op{{Kind: api.Drop, Node: idOf(1, 1, 0)}}}
}

func TestNumberOfGroups(t *testing.T) {
	for _, n := range []int{1, 2, 3, 128, lastT - 1, lastT} {
		taken(t, "N", numbered(2, n, with(1, n-1)...))
	}
	for _, n := range []int{0, -1, lastT + 1, lastT + 2, math.MaxInt, math.MinInt, math.MinInt + 1} {
		refused(t, "N", numbered(2, n, with(1, n-1)...))
		refused(t, "N, Deps of nothing", numbered(2, n))
		refused(t, "N, Deps have it", numbered(2, n, 1, n))
	}
}

// with are the numbers a and b, plain.
func with(a, b int) []int {
	if b == 0 {
		return []int{a}
	}
	return []int{a, b}
}

func TestDeps(t *testing.T) {
	sixteen := slices.Repeat([]int{3}, 16)
	for _, g := range []api.Group{
		numbered(1, 1), numbered(16, 1), numbered(1, 2, 1), numbered(1, 1, 0, 5), numbered(2, 1, 7), numbered(3, 3, 0, 0, 2), numbered(2, 6, 1, 5, 9),
		numbered(1, 4, sixteen...), numbered(16, 4, sixteen...), numbered(8, 4, sixteen...), numbered(16, 2, append(make([]int, 15), 1)...),
		numbered(1, 1, 0, math.MaxInt), numbered(1, 1, append(make([]int, 15), lastT)...), // a vector's numbers have no greatest one
		{Stamp: api.Stamp{T: 9, R: 1}, N: 1, Deps: []int{}, Ops: []api.Op{{Kind: api.Drop, Node: idOf(1, 1, 0), Dots: []api.Stamp{}, Elems: []api.Id{}}}},
	} {
		taken(t, "Deps", g)
	}
	for _, g := range []api.Group{
		numbered(1, 2), numbered(16, 2), numbered(1, 1, 1), numbered(1, 2, 2), numbered(1, 3, 1), numbered(1, 2, 0, 1), numbered(2, 2, 1), numbered(2, 2, 1, 2), numbered(2, 1, 0, 1), numbered(2, 2, 1, 0, 1), numbered(16, 2, make([]int, 15)...),
		numbered(1, 1, 0), numbered(1, 2, 1, 0), numbered(2, 1, 0, 0), numbered(2, 1, 1, 0), numbered(1, 2, append([]int{1}, make([]int, 15)...)...), numbered(1, 2, append([]int{1}, make([]int, 16)...)...), // noughts at the end
		numbered(1, 4, append(sixteen, 1)...), numbered(1, 4, append(sixteen, 3)...), numbered(16, 4, append(sixteen, 0)...), numbered(1, 4, slices.Repeat([]int{3}, 300)...), numbered(1, 1, append(make([]int, 16), 1)...),
		numbered(1, 1, 0, -1), numbered(2, 4, -1, 3), numbered(2, 4, 1, 3, -5), numbered(1, 1, 0, -1, 2), numbered(1, 1, 0, math.MinInt), numbered(1, 0, -1), numbered(1, 1, -1),
	} {
		refused(t, "Deps", g)
	}
}

func TestUndo(t *testing.T) {
	undoing := func(s api.Stamp, ops ...api.Op) api.Group {
		return api.Group{Stamp: api.Stamp{T: 9, R: 4}, N: 3, Deps: []int{1, 0, 0, 2}, Undo: s, Ops: ops}
	}
	drop := api.Op{Kind: api.Drop, Node: idOf(1, 1, 0)}
	for _, s := range []api.Stamp{{T: 1, R: 1}, {T: 8, R: 4}, {T: 8, R: 16}, {T: 9, R: 1}, {T: 9, R: 3}, {T: 1, R: 16}} {
		taken(t, "Undo", undoing(s))
		refused(t, "Undo beside an operation", undoing(s, drop))
		refused(t, "Undo beside operations", undoing(s, drop, drop))
		refused(t, "Undo beside an operation that may not be", undoing(s, api.Op{}))
	}
	taken(t, "no Undo", undoing(api.Stamp{}, drop))
	refused(t, "neither Undo nor operations", undoing(api.Stamp{}))
	for _, s := range []api.Stamp{
		{T: 0, R: 1}, {T: 0, R: 16}, {T: 0, R: -1}, {T: 1, R: 0}, {T: 8, R: 0}, {T: -1, R: 0}, // half empty
		{T: 9, R: 4}, {T: 9, R: 5}, {T: 9, R: 16}, {T: 10, R: 1}, {T: 10, R: 4}, {T: lastT, R: 16}, // its own, and behind it
		{T: -1, R: 1}, {T: 1, R: -1}, {T: 1, R: 17}, {T: 8, R: 17}, {T: lastT + 1, R: 1}, {T: math.MinInt, R: 1}, {T: 1, R: math.MinInt}, {T: 1, R: math.MaxInt}, // not right
	} {
		refused(t, "Undo", undoing(s))
		refused(t, "Undo beside an operation", undoing(s, drop))
	}
	least := api.Group{Stamp: api.Stamp{T: 1, R: 2}, N: 1, Undo: api.Stamp{T: 1, R: 1}}
	taken(t, "the least one", least)
	first := api.Group{Stamp: api.Stamp{T: 1, R: 1}, N: 1, Undo: api.Stamp{T: 1, R: 1}}
	refused(t, "nothing ahead", first)
	last := api.Group{Stamp: api.Stamp{T: lastT, R: lastR}, N: 1, Undo: api.Stamp{T: lastT, R: lastR - 1}}
	taken(t, "the greatest one", last)
}

func TestNumberOfOperations(t *testing.T) {
	for n, ok := range map[int]bool{0: false, 1: true, 2: true, 199: true, 200: true, 201: false, 202: false, 1000: false} {
		for _, o := range rightOps() {
			g := groupWith(slices.Repeat([]api.Op{o}, n)...)
			if o.Kind == api.Make || o.Kind == api.Insert { // only the first one can be as it stands
				for i := range g.Ops {
					g.Ops[i] = shifted(o, i*born(o))
				}
			}
			if ok {
				taken(t, strconv.Itoa(n)+" operations", g)
			} else {
				refused(t, strconv.Itoa(n)+" operations", g)
			}
		}
	}
}

// One operation that may not be, wherever it stands, is too many.
func TestEachOperationCounts(t *testing.T) {
	drop := api.Op{Kind: api.Drop, Node: idOf(1, 1, 0)}
	for _, bad := range []api.Op{{Kind: 5, Node: idOf(1, 1, 0)}, {Kind: api.Drop}, {Kind: api.Move, Node: idOf(1, 1, 0)}} {
		for _, n := range []int{1, 2, 3, 200} {
			for at := range n {
				g := groupWith(slices.Repeat([]api.Op{drop}, n)...)
				g.Ops[at] = bad
				refused(t, "one of the operations", g)
			}
		}
	}
}

func TestKinds(t *testing.T) {
	for _, o := range rightOps() {
		for _, k := range []int{-1, 5, 6, 7, 128, 256, 1 << 32, math.MaxInt, math.MinInt} {
			bad := o
			bad.Kind = k
			refused(t, "a kind that there is none of", groupWith(bad))
		}
		for k := range 5 {
			other := o
			other.Kind = k
			judged(t, "another kind", groupWith(other))
		}
	}
	for _, k := range []int{-1, 5} {
		refused(t, "nothing but a kind", groupWith(api.Op{Kind: k}))
		refused(t, "a kind and a node", groupWith(api.Op{Kind: k, Node: idOf(1, 1, 0)}))
	}
}

// A field that a kind does not have may not be set, to whatever value; one that it has is taken as it is.
func TestFieldsOfOtherKinds(t *testing.T) {
	some := reflect.ValueOf(api.Op{Parent: idOf(1, 1, 0), Name: "a", Dir: true, Dots: []api.Stamp{{T: 1, R: 1}}, After: idOf(1, 1, 0), Elem: idOf(9, 4, 0), Text: "a", Elems: []api.Id{idOf(1, 1, 0)}})
	odd := reflect.ValueOf(api.Op{Parent: idOf(0, 0, 1), Name: "\xff", Dir: true, Dots: []api.Stamp{{}}, After: idOf(0, 1, 0), Elem: idOf(-1, 0, 0), Text: "\x00", Elems: []api.Id{{}}})
	for _, o := range rightOps() {
		for i := range some.NumField() {
			name := some.Type().Field(i).Name
			if slices.Contains(fieldsOf(o.Kind), name) {
				continue
			}
			for _, from := range []reflect.Value{some, odd} {
				bad := o
				reflect.ValueOf(&bad).Elem().Field(i).Set(from.Field(i))
				if e := wire.Check(groupWith(bad)); e != api.ErrCode {
					t.Errorf("H1: kind %d with %s: %d", o.Kind, name, e)
				}
				if s, e := wire.Encode(groupWith(bad)); s != "" || e != api.ErrCode {
					t.Errorf("H2: kind %d with %s: %q, %d", o.Kind, name, s, e)
				}
			}
		}
		empty := o // lists without elements are empty, nil or not
		if len(o.Dots) == 0 {
			empty.Dots = []api.Stamp{}
		}
		if len(o.Elems) == 0 {
			empty.Elems = make([]api.Id, 0, 5)
		}
		taken(t, "empty lists", groupWith(empty))
	}
}

// names are names at layer 7's edges.
func names() []string {
	return []string{"a", "Z", "0", "-", "_", "...", ".a", "a.", "..a", "f.go", strings.Repeat("x", 31), strings.Repeat("x", 32), strings.Repeat(".", 32)}
}

// wrongNames are none.
func wrongNames() []string {
	return []string{"", ".", "..", strings.Repeat("x", 33), strings.Repeat("x", 3000), "a b", "a/b", "/", "a~", "b~3.1.0", "\u00e9", "\xff", "a\x00", "a:", "@a"}
}

func TestNames(t *testing.T) {
	for _, kind := range []int{api.Make, api.Move} {
		for _, name := range names() {
			o := opOf(kind)
			o.Name = name
			taken(t, "a name", groupWith(o))
		}
		for _, name := range wrongNames() {
			o := opOf(kind)
			o.Name = name
			refused(t, "a name", groupWith(o))
		}
	}
}

func TestDirs(t *testing.T) {
	for _, dir := range []bool{false, true} {
		o := opOf(api.Make)
		o.Dir = dir
		taken(t, "Dir", groupWith(o))
	}
}

// aheads are ids that are ahead in groupWith's group {9, 4} in its third operation, where five came to be.
func aheads() []api.Id {
	return []api.Id{idOf(1, 1, 0), idOf(8, 4, 0), idOf(8, 16, lastI), idOf(9, 3, 0), idOf(9, 3, lastI), idOf(9, 1, 7), idOf(9, 4, 0), idOf(9, 4, 3), idOf(9, 4, 4)}
}

// notAhead are ids that are not ahead there, nor none.
func notAhead() []api.Id {
	return []api.Id{
		idOf(9, 4, 5), idOf(9, 4, 6), idOf(9, 4, lastI), idOf(9, 5, 0), idOf(9, 16, 4), idOf(10, 1, 0), idOf(10, 4, 0), idOf(lastT, 16, lastI), // not yet, or behind
		idOf(0, 0, 1), idOf(0, 1, 0), idOf(1, 0, 0), idOf(8, 0, 0), idOf(8, 17, 0), idOf(8, 1, -1), idOf(8, 1, lastI+1), idOf(9, 4, -1), idOf(-1, 1, 0), idOf(8, -1, 0), idOf(9, 0, 0), idOf(math.MinInt, 1, 0), idOf(1, 1, math.MinInt), idOf(1, 1, math.MaxInt), idOf(1, math.MinInt, 0),
	}
}

// third is a group in which o is the third operation, behind those in which five ids came to be.
func third(o api.Op) api.Group {
	return groupWith(api.Op{Kind: api.Make, Node: idOf(9, 4, 0), Name: "f"}, api.Op{Kind: api.Insert, Node: idOf(9, 4, 0), Elem: idOf(9, 4, 1), Text: "a\u00e9\U0001F600b"}, o)
}

// An id that need be ahead, and one that may be none.
func TestIds(t *testing.T) {
	ops := []struct {
		what string
		none bool
		make func(x api.Id) api.Op
	}{
		{"Make's Parent", true, func(x api.Id) api.Op {
			return api.Op{Kind: api.Make, Node: idOf(9, 4, 5), Parent: x, Name: "a"}
		}},
		{"Move's Node", false, func(x api.Id) api.Op { return api.Op{Kind: api.Move, Node: x, Name: "a"} }},
		{"Move's Parent", true, func(x api.Id) api.Op {
			return api.Op{Kind: api.Move, Node: idOf(9, 4, 0), Parent: x, Name: "a"}
		}},
		{"Drop's Node", false, func(x api.Id) api.Op { return api.Op{Kind: api.Drop, Node: x} }},
		{"Insert's Node", false, func(x api.Id) api.Op {
			return api.Op{Kind: api.Insert, Node: x, Elem: idOf(9, 4, 5), Text: "abc"}
		}},
		{"Insert's After", true, func(x api.Id) api.Op {
			return api.Op{Kind: api.Insert, Node: idOf(9, 4, 0), After: x, Elem: idOf(9, 4, 5), Text: "abc"}
		}},
		{"Erase's Node", false, func(x api.Id) api.Op {
			return api.Op{Kind: api.Erase, Node: x, Elems: []api.Id{idOf(1, 1, 0)}}
		}},
		{"an element", false, func(x api.Id) api.Op {
			return api.Op{Kind: api.Erase, Node: idOf(9, 4, 0), Elems: []api.Id{x}}
		}},
	}
	for _, c := range ops {
		for _, x := range aheads() {
			taken(t, c.what+" ahead", third(c.make(x)))
		}
		for _, x := range notAhead() {
			refused(t, c.what+" not ahead", third(c.make(x)))
		}
		if c.none {
			taken(t, c.what+" none", third(c.make(api.Id{})))
		} else {
			refused(t, c.what+" none", third(c.make(api.Id{})))
		}
	}
}

// Make's Node and Insert's Elem are the next own id, behind runs of few and of many code points.
func TestNextIds(t *testing.T) {
	run := func(at int, text string) api.Op {
		return api.Op{Kind: api.Insert, Node: idOf(1, 1, 0), Elem: idOf(9, 4, at), Text: text}
	}
	ahead := [][]api.Op{nil, {opOf(api.Drop)}, {opOf(api.Move), opOf(api.Erase)}, {run(0, "a")}, {run(0, "\u00e9\u00e9\u00e9")}, {run(0, "ab"), opOf(api.Drop), run(2, "\U0001F600")}, {run(0, strings.Repeat("\u00e9", 2000))}, {opOf(api.Make)}}
	var many []api.Op
	for i := range 199 {
		many = append(many, run(2000*i, strings.Repeat("x", 2000)))
	}
	ahead = append(ahead, many)
	for _, ops := range ahead {
		n := 0
		for _, o := range ops {
			n += born(o)
		}
		for _, make := range []func(x api.Id) api.Op{
			func(x api.Id) api.Op { return api.Op{Kind: api.Make, Node: x, Name: "a"} },
			func(x api.Id) api.Op { return api.Op{Kind: api.Insert, Node: idOf(1, 1, 0), Elem: x, Text: "ab"} },
		} {
			taken(t, "the next own id", groupWith(append(slices.Clone(ops), make(idOf(9, 4, n)))...))
			for _, x := range []api.Id{idOf(9, 4, n-1), idOf(9, 4, n+1), idOf(9, 4, n+2), {}, idOf(9, 3, n), idOf(9, 5, n), idOf(8, 4, n), idOf(10, 4, n), idOf(1, 1, 0), idOf(0, 0, n+1), idOf(9, 4, lastI+1)} {
				refused(t, "another id", groupWith(append(slices.Clone(ops), make(x))...))
			}
		}
	}
	all := append(slices.Clone(many), run(398000, strings.Repeat("y", 2000)))
	taken(t, "as many elements as there can be", groupWith(all...))
	erase := func(x api.Id) []api.Op {
		return append(slices.Clone(many), api.Op{Kind: api.Erase, Node: idOf(1, 1, 0), Elems: []api.Id{idOf(9, 4, 0), x}})
	}
	taken(t, "the last element", groupWith(erase(idOf(9, 4, 397999))...))
	refused(t, "behind the last element", groupWith(erase(idOf(9, 4, 398000))...))
}

// What came to be in an operation is not there for that one itself.
func TestOwnIdsInTheirOperation(t *testing.T) {
	for _, o := range []api.Op{
		{Kind: api.Make, Node: idOf(9, 4, 0), Parent: idOf(9, 4, 0), Name: "a"},
		{Kind: api.Insert, Node: idOf(9, 4, 0), Elem: idOf(9, 4, 0), Text: "ab"},
		{Kind: api.Insert, Node: idOf(1, 1, 0), After: idOf(9, 4, 0), Elem: idOf(9, 4, 0), Text: "ab"},
		{Kind: api.Insert, Node: idOf(1, 1, 0), After: idOf(9, 4, 1), Elem: idOf(9, 4, 0), Text: "ab"},
	} {
		refused(t, "an id of the operation itself", groupWith(o))
	}
	late := api.Op{Kind: api.Move, Node: idOf(9, 4, 0), Name: "b"}
	node := api.Op{Kind: api.Make, Node: idOf(9, 4, 0), Name: "a"}
	taken(t, "made ahead", groupWith(node, late))
	refused(t, "made behind", groupWith(late, node))
}

// dots are n stamps in order, the last of which is ahead of {9, 4} or it.
func dots(n int, own bool) []api.Stamp {
	var l []api.Stamp
	for i := range n {
		l = append(l, api.Stamp{T: 1 + i/lastR, R: 1 + i%lastR})
	}
	if own {
		l[n-1] = api.Stamp{T: 20, R: 4}
	}
	return l
}

func TestDrops(t *testing.T) {
	drop := func(l ...api.Stamp) api.Group {
		return api.Group{Stamp: api.Stamp{T: 20, R: 4}, N: 1, Ops: []api.Op{{Kind: api.Drop, Node: idOf(1, 1, 0), Dots: l}}}
	}
	for _, n := range []int{0, 1, 2, 199, 200} {
		taken(t, "dots", drop(dots(n, false)...))
		if n > 0 {
			taken(t, "dots with the group's own", drop(dots(n, true)...))
		}
		for at := range max(n-1, 0) {
			l := dots(n, false)
			l[at], l[at+1] = l[at+1], l[at]
			refused(t, "dots out of order", drop(l...))
			l[at] = l[at+1]
			refused(t, "a dot twice", drop(l...))
		}
		for at := range n {
			for _, s := range []api.Stamp{{T: 20, R: 5}, {T: 21, R: 1}, {T: 21, R: 4}, {T: lastT, R: lastR}, {}, {T: 0, R: 1}, {T: 1, R: 0}, {T: 1, R: 17}, {T: -1, R: 1}, {T: lastT + 1, R: 1}, {T: 19, R: -1}, {T: math.MinInt, R: 4}} {
				l := dots(n, false)
				l[at] = s
				refused(t, "a dot that may not be", drop(l...))
			}
		}
	}
	for _, n := range []int{201, 202, 300} {
		refused(t, "too many dots", drop(dots(n, false)...))
		refused(t, "too many dots", drop(slices.Repeat([]api.Stamp{{T: 1, R: 1}}, n)...))
	}
	for _, l := range [][]api.Stamp{{{T: 2, R: 1}, {T: 1, R: 2}}, {{T: 1, R: 2}, {T: 1, R: 1}}, {{T: 20, R: 4}, {T: 20, R: 4}}, {{T: 20, R: 4}, {T: 1, R: 1}}, {{T: 1, R: 1}, {T: 20, R: 4}, {T: 20, R: 5}}, {{T: 1, R: 1}, {T: 2, R: 2}, {T: 1, R: 1}}} {
		refused(t, "dots", drop(l...))
	}
	for _, l := range [][]api.Stamp{{{T: 1, R: 16}, {T: 2, R: 1}}, {{T: 1, R: 1}, {T: 1, R: 2}}, {{T: 20, R: 3}, {T: 20, R: 4}}, {{T: 20, R: 4}}} {
		taken(t, "dots", drop(l...))
	}
}

func TestTexts(t *testing.T) {
	insert := func(text string) api.Group {
		return groupWith(api.Op{Kind: api.Insert, Node: idOf(1, 1, 0), Elem: idOf(9, 4, 0), Text: text}, api.Op{Kind: api.Drop, Node: idOf(1, 1, 0)})
	}
	for _, c := range []string{"x", "\x00", "\u00e9", "\ufffd", "\U0001F600", "\n", "\ud7ff", "\ue000", "\U0010ffff", "\u0800"} {
		for n, ok := range map[int]bool{0: false, 1: true, 2: true, 499: true, 1000: true, 1999: true, 2000: true, 2001: false, 2002: false, 9000: false} {
			if ok {
				taken(t, "a text", insert(strings.Repeat(c, n)))
			} else {
				refused(t, "a text", insert(strings.Repeat(c, n)))
			}
		}
	}
	for _, s := range []string{"\xff", "\x80", "\xc3", "\xc0\x80", "\xe0\x80\x80", "\xed\xa0\x80", "\xed\xbf\xbf", "\xf4\x90\x80\x80", "\xf8\x88\x80\x80\x80", "\xef\xbf", "\xf0\x9f\x98"} {
		for _, text := range []string{s, "a" + s, s + "a", "a" + s + "b", strings.Repeat("x", 1999) + s, strings.Repeat("x", 2000) + s, strings.Repeat(s, 1000)} {
			refused(t, "no text", insert(text))
		}
	}
}

// elems are n ids in order, all of them ahead of the group {9, 4}.
func elems(n int) []api.Id {
	var l []api.Id
	for i := range n {
		l = append(l, idOf(1+i/500, 1+i/100%5, i%100))
	}
	return l
}

func TestErases(t *testing.T) {
	erase := func(l ...api.Id) api.Group {
		return groupWith(api.Op{Kind: api.Erase, Node: idOf(1, 1, 0), Elems: l})
	}
	for n, ok := range map[int]bool{0: false, 1: true, 2: true, 128: true, 1999: true, 2000: true, 2001: false, 2002: false, 4000: false} {
		if ok {
			taken(t, "elements", erase(elems(n)...))
		} else {
			refused(t, "elements", erase(elems(n)...))
		}
	}
	for _, n := range []int{2, 3, 2000} {
		for _, at := range []int{0, 1, n/2 - 1, n - 2} {
			if at < 0 || at+1 >= n {
				continue
			}
			l := elems(n)
			l[at], l[at+1] = l[at+1], l[at]
			refused(t, "elements out of order", erase(l...))
			l[at] = l[at+1]
			refused(t, "an element twice", erase(l...))
			for _, x := range notAhead() {
				l = elems(n)
				l[at] = x
				refused(t, "an element that may not be", erase(l...))
				l = elems(n)
				l[n-1] = x
				refused(t, "an element that may not be, last", erase(l...))
			}
		}
	}
	for _, l := range [][]api.Id{{idOf(1, 1, 1), idOf(1, 1, 0)}, {idOf(1, 2, 0), idOf(1, 1, 9)}, {idOf(2, 1, 0), idOf(1, 9, 9)}, {idOf(1, 1, 0), idOf(1, 1, 0)}, {idOf(9, 3, 5), idOf(9, 4, 0)}, {{}}, {{}, idOf(1, 1, 0)}} {
		refused(t, "elements", erase(l...))
	}
	for _, l := range [][]api.Id{{idOf(1, 1, 0), idOf(1, 1, 1)}, {idOf(1, 1, 9), idOf(1, 2, 0)}, {idOf(1, 9, 9), idOf(2, 1, 0)}, {idOf(9, 3, lastI)}} {
		taken(t, "elements", erase(l...))
	}
	own := func(l ...api.Id) api.Group {
		return third(api.Op{Kind: api.Erase, Node: idOf(9, 4, 0), Elems: l})
	}
	taken(t, "own elements", own(idOf(8, 16, 7), idOf(9, 4, 1), idOf(9, 4, 2), idOf(9, 4, 4)))
	refused(t, "own elements that did not come to be yet", own(idOf(8, 16, 7), idOf(9, 4, 1), idOf(9, 4, 5)))
	refused(t, "own elements ahead of others", own(idOf(9, 4, 1), idOf(8, 16, 7)))
}

// wrongs are changes each of which makes of the group of two operations that twice has one that may not be.
func wrongs() []func(g *api.Group) {
	return []func(g *api.Group){
		func(g *api.Group) { g.T = 0 },
		func(g *api.Group) { g.T = lastT + 1 },
		func(g *api.Group) { g.R = 17 },
		func(g *api.Group) { g.N = 7 },
		func(g *api.Group) { g.N = lastT + 1 },
		func(g *api.Group) { g.Deps = append(slices.Clone(g.Deps), 0) },
		func(g *api.Group) { g.Deps = slices.Repeat([]int{2}, 17) },
		func(g *api.Group) { g.Undo = api.Stamp{T: 1, R: 1} },
		func(g *api.Group) { g.Undo = api.Stamp{T: 0, R: 1} },
		func(g *api.Group) { g.Undo = g.Stamp },
		func(g *api.Group) { g.Ops = nil },
		func(g *api.Group) { g.Ops = append(g.Ops, api.Op{Kind: 5}) },
		func(g *api.Group) { g.Ops = append(g.Ops, slices.Repeat([]api.Op{opOf(api.Drop)}, 200)...) },
		func(g *api.Group) { g.Ops = append(g.Ops, api.Op{Kind: api.Move, Node: idOf(1, 1, 0), Name: ".."}) },
		func(g *api.Group) {
			g.Ops = append(g.Ops, api.Op{Kind: api.Erase, Node: idOf(1, 1, 0), Elems: []api.Id{idOf(1, 1, 0), idOf(1, 1, 0)}})
		},
		func(g *api.Group) {
			g.Ops = append(g.Ops, api.Op{Kind: api.Drop, Node: idOf(1, 1, 0), Dots: []api.Stamp{{T: 9, R: 5}}})
		},
		func(g *api.Group) {
			g.Ops = append(g.Ops, api.Op{Kind: api.Insert, Node: idOf(1, 1, 0), Elem: idOf(9, 4, 2), Text: "\xff"})
		},
		func(g *api.Group) {
			g.Ops = append(g.Ops, api.Op{Kind: api.Make, Node: idOf(9, 4, 2), Name: "a", Text: "a"})
		},
		func(g *api.Group) { g.Ops = append(g.Ops, api.Op{Kind: api.Make, Node: idOf(9, 4, 3), Name: "a"}) },
	}
}

func TestTwoWrongsAtOnce(t *testing.T) {
	twice := func() api.Group {
		return groupWith(api.Op{Kind: api.Make, Node: idOf(9, 4, 0), Name: "a"}, api.Op{Kind: api.Make, Node: idOf(9, 4, 1), Name: "b"})
	}
	taken(t, "without wrongs", twice())
	told := 0
	for _, one := range wrongs() {
		g := twice()
		one(&g)
		refused(t, "one wrong", g)
		for _, other := range wrongs() {
			g := twice()
			one(&g)
			other(&g)
			judged(t, "two wrongs", g)
			if !isGroup(g) {
				told++
			}
		}
	}
	if all := len(wrongs()) * len(wrongs()); told < all-4 { // an Undo beside no operations is none
		t.Errorf("H1: of %d two wrongs only %d are told", all, told)
	}
}

// Each number, text, truth and list of a group changed, alone: what may be then is still taken, what may not is refused, and none has the bytes of another.
func TestOneFieldChanged(t *testing.T) {
	told := map[bool]int{}
	for _, g := range rightGroups() {
		if weight(g) > 150 {
			continue
		}
		own, _ := wire.Encode(g)
		for _, h := range neighbours(g) {
			judged(t, "changed", h)
			told[isGroup(h)]++
			if s, e := wire.Encode(h); e == api.OK && (s == own) != same(g, h) {
				t.Errorf("H4: the same bytes: %s and %s", short(g), short(h))
			}
		}
	}
	if told[true] < 200 || told[false] < 1000 {
		t.Errorf("H1, H4: changes are sought in vain: %v", told)
	}
}

func TestUnlikeGroupsHaveUnlikeBytes(t *testing.T) {
	groups := rightGroups()
	for _, g := range rightGroups() {
		if weight(g) <= 150 {
			groups = append(groups, neighbours(g)...)
		}
	}
	told := map[string]api.Group{}
	for _, g := range groups {
		s, e := wire.Encode(g)
		if e != api.OK {
			continue
		}
		if h, ok := told[s]; ok && !same(g, h) {
			t.Errorf("H4: the same bytes: %s and %s", short(g), short(h))
		}
		told[s] = g
	}
	if len(told) < 500 {
		t.Errorf("H4: only %d groups", len(told))
	}
}

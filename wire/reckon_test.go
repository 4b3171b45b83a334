package wire_test

import (
	"encoding/binary"
	"fmt"
	"math"
	"reflect"
	"slices"
	"strings"
	"unicode/utf8"

	"recension/api"
)

// What the promises say, reckoned another way than the program does: ids that came to be stand in runs, fields are gone through by their names, and numbers are those of encoding/binary.

const (
	lastT = 1 << 40 // as the chapters have them, not as api does
	lastR = 16
	lastI = 400000
)

// idOf is what is named by these numbers.
func idOf(t, r, i int) api.Id { return api.Id{Stamp: api.Stamp{T: t, R: r}, I: i} }

// key is a number by which stamps that are right are in order.
func key(s api.Stamp) int { return s.T*32 + s.R }

func rightStamp(s api.Stamp) bool {
	return s.T > 0 && s.T <= lastT && s.R > 0 && s.R <= lastR
}

func isName(s string) bool {
	const signs = "ABCDEFGHIJKLMNOPQRSTUVWXYZabcdefghijklmnopqrstuvwxyz0123456789.-_"
	return len(s) > 0 && len(s) <= 32 && s != "." && s != ".." && strings.Trim(s, signs) == "" && !strings.ContainsFunc(s, func(r rune) bool { return !strings.ContainsRune(signs, r) })
}

// fieldsOf are the names of the fields of an operation that its kind has.
func fieldsOf(kind int) []string {
	all := [][]string{{"Kind", "Node", "Parent", "Name", "Dir"}, {"Kind", "Node", "Parent", "Name"}, {"Kind", "Node", "Dots"}, {"Kind", "Node", "After", "Elem", "Text"}, {"Kind", "Node", "Elems"}}
	if kind < 0 || kind >= len(all) {
		return []string{"Kind", "Node"}
	}
	return all[kind]
}

// bare tells whether all fields of o are empty that its kind does not have.
func bare(o api.Op) bool {
	v := reflect.ValueOf(o)
	for i := range v.NumField() {
		f := v.Field(i)
		empty := f.IsZero() || f.Kind() == reflect.Slice && f.Len() == 0
		if !empty && !slices.Contains(fieldsOf(o.Kind), v.Type().Field(i).Name) {
			return false
		}
	}
	return true
}

// born is how many ids come to be in o.
func born(o api.Op) int {
	switch o.Kind {
	case api.Make:
		return 1
	case api.Insert:
		return utf8.RuneCountInString(o.Text)
	}
	return 0
}

// isGroup reckons H1.
func isGroup(g api.Group) bool {
	if !rightStamp(g.Stamp) || g.N <= 0 || g.N > lastT || len(g.Deps) > 16 {
		return false
	}
	var deps [16]int
	for i, n := range g.Deps {
		if n < 0 || n == 0 && i == len(g.Deps)-1 {
			return false
		}
		deps[i] = n
	}
	if deps[g.R-1]+1 != g.N {
		return false
	}
	if g.Undo.T != 0 || g.Undo.R != 0 {
		return len(g.Ops) == 0 && rightStamp(g.Undo) && key(g.Undo) < key(g.Stamp)
	}
	return len(g.Ops) > 0 && len(g.Ops) <= 200 && areOps(g)
}

// areOps reckons whether all operations of g may be.
func areOps(g api.Group) bool {
	var runs [][2]int // of the own ids that came to be in each operation the first one, and the one behind the last one
	last := 0
	own := func(x api.Id) bool {
		return x.Stamp == g.Stamp && slices.ContainsFunc(runs, func(r [2]int) bool { return r[0] <= x.I && x.I < r[1] })
	}
	ahead := func(x api.Id) bool {
		return own(x) || rightStamp(x.Stamp) && x.I >= 0 && x.I <= lastI && key(x.Stamp) < key(g.Stamp)
	}
	none := func(x api.Id) bool { return x.T == 0 && x.R == 0 && x.I == 0 }
	for _, o := range g.Ops {
		fresh := func(x api.Id) bool { return x.T == g.T && x.R == g.R && x.I == last }
		var ok bool
		switch o.Kind {
		case 0:
			ok = fresh(o.Node) && (none(o.Parent) || ahead(o.Parent)) && isName(o.Name)
		case 1:
			ok = ahead(o.Node) && (none(o.Parent) || ahead(o.Parent)) && isName(o.Name)
		case 2:
			ok = ahead(o.Node) && len(o.Dots) <= 200 && areDots(g, o.Dots)
		case 3:
			n := utf8.RuneCountInString(o.Text)
			ok = ahead(o.Node) && (none(o.After) || ahead(o.After)) && fresh(o.Elem) && utf8.ValidString(o.Text) && n > 0 && n < 2001
		case 4:
			ok = ahead(o.Node) && len(o.Elems) > 0 && len(o.Elems) < 2001 && areElems(o.Elems, ahead)
		}
		if !ok || !bare(o) {
			return false
		}
		runs = append(runs, [2]int{last, last + born(o)})
		last += born(o)
	}
	return true
}

func areDots(g api.Group, l []api.Stamp) bool {
	last := 0
	for _, s := range l {
		if !rightStamp(s) || key(s) > key(g.Stamp) || key(s) <= last {
			return false
		}
		last = key(s)
	}
	return true
}

func areElems(l []api.Id, ahead func(x api.Id) bool) bool {
	for i, x := range l {
		if !ahead(x) {
			return false
		}
		if i > 0 && (key(x.Stamp) < key(l[i-1].Stamp) || x.Stamp == l[i-1].Stamp && x.I <= l[i-1].I) {
			return false
		}
	}
	return true
}

// piece is a number or a text within a group's bytes. What is neither is a list's length or a truth, which are numbers, too.
type piece struct {
	bytes  string
	number bool
}

// pieces are a group's bytes, as H2 tells them, one by one; and whether it has any: a number below 0 has none.
func pieces(g api.Group) ([]piece, bool) {
	var l []piece
	ok := true
	nat := func(all ...int) {
		for _, n := range all {
			ok = ok && n >= 0
			l = append(l, piece{string(binary.AppendUvarint(nil, uint64(n))), true})
		}
	}
	text := func(s string) {
		nat(len(s))
		l = append(l, piece{s, false})
	}
	id := func(x api.Id) { nat(x.T, x.R, x.I) }
	nat(g.T, g.R, g.N, len(g.Deps))
	nat(g.Deps...)
	nat(g.Undo.T, g.Undo.R, len(g.Ops))
	for _, o := range g.Ops {
		nat(o.Kind)
		id(o.Node)
		switch o.Kind {
		case 0:
			id(o.Parent)
			text(o.Name)
			nat(map[bool]int{true: 1}[o.Dir])
		case 1:
			id(o.Parent)
			text(o.Name)
		case 2:
			nat(len(o.Dots))
			for _, s := range o.Dots {
				nat(s.T, s.R)
			}
		case 3:
			id(o.After)
			id(o.Elem)
			text(o.Text)
		case 4:
			nat(len(o.Elems))
			for _, x := range o.Elems {
				id(x)
			}
		}
		ok = ok && bare(o) // what a kind does not have is not told
	}
	return l, ok
}

// joined are the bytes of pieces.
func joined(l []piece) string {
	var b strings.Builder
	for _, p := range l {
		b.WriteString(p.bytes)
	}
	return b.String()
}

// bytesOf are a group's bytes, may it be or not.
func bytesOf(g api.Group) (string, bool) {
	l, ok := pieces(g)
	if !ok {
		return "", false
	}
	return joined(l), true
}

// tooShort is what a cursor panics with where no number or text stands.
type tooShort struct{}

// groupOf reckons H3: what is read, if it may be, and has these bytes.
func groupOf(s string) (g api.Group, ok bool) {
	defer func() {
		if p := recover(); p != nil {
			if _, mine := p.(tooShort); !mine {
				panic(p)
			}
			g, ok = api.Group{}, false
		}
	}()
	c := &cursor{all: []byte(s)}
	g.Stamp = c.stamp()
	g.N = c.nat()
	for range c.nat() {
		g.Deps = append(g.Deps, c.nat())
	}
	g.Undo = c.stamp()
	for range c.nat() {
		g.Ops = append(g.Ops, c.op())
	}
	if c.at < len(s) || !isGroup(g) {
		return api.Group{}, false
	}
	if back, has := bytesOf(g); !has || back != s { // what is longer than it need be is told otherwise
		return api.Group{}, false
	}
	return g, true
}

// cursor is a place in bytes. Its methods go on from there, or panic.
type cursor struct {
	all []byte
	at  int
}

func (c *cursor) nat() int {
	n, k := binary.Uvarint(c.all[c.at:])
	if k <= 0 || n > math.MaxInt {
		panic(tooShort{})
	}
	c.at += k
	return int(n)
}

func (c *cursor) stamp() (s api.Stamp) {
	s.T = c.nat()
	s.R = c.nat()
	return s
}

func (c *cursor) id() (x api.Id) {
	x.Stamp = c.stamp()
	x.I = c.nat()
	return x
}

func (c *cursor) text() string {
	n := c.nat()
	if n > len(c.all)-c.at {
		panic(tooShort{})
	}
	c.at += n
	return string(c.all[c.at-n : c.at])
}

func (c *cursor) op() (o api.Op) {
	o.Kind = c.nat()
	o.Node = c.id()
	switch o.Kind {
	case 0:
		o.Parent = c.id()
		o.Name = c.text()
		o.Dir = c.nat() == 1
	case 1:
		o.Parent = c.id()
		o.Name = c.text()
	case 2:
		for range c.nat() {
			o.Dots = append(o.Dots, c.stamp())
		}
	case 3:
		o.After = c.id()
		o.Elem = c.id()
		o.Text = c.text()
	case 4:
		for range c.nat() {
			o.Elems = append(o.Elems, c.id())
		}
	}
	return o
}

// copied is g with lists of its own.
func copied(g api.Group) api.Group {
	g.Deps = slices.Clone(g.Deps)
	g.Ops = slices.Clone(g.Ops)
	for i := range g.Ops {
		g.Ops[i].Dots = slices.Clone(g.Ops[i].Dots)
		g.Ops[i].Elems = slices.Clone(g.Ops[i].Elems)
	}
	return g
}

// same tells whether two groups are the same. Lists without elements are, nil or not.
func same(g, h api.Group) bool {
	sameOps := slices.EqualFunc(g.Ops, h.Ops, func(o, p api.Op) bool {
		if !slices.Equal(o.Dots, p.Dots) || !slices.Equal(o.Elems, p.Elems) {
			return false
		}
		o.Dots, o.Elems, p.Dots, p.Elems = nil, nil, nil, nil
		return reflect.DeepEqual(o, p)
	})
	return g.Stamp == h.Stamp && g.N == h.N && slices.Equal(g.Deps, h.Deps) && g.Undo == h.Undo && sameOps
}

// short is a group as a text, cut.
func short(g api.Group) string {
	s := fmt.Sprintf("%+v", g)
	return s[:min(len(s), 400)]
}

// leaves calls f with each number, truth, text and list that v has.
func leaves(v reflect.Value, f func(v reflect.Value)) {
	switch v.Kind() {
	case reflect.Struct:
		for i := range v.NumField() {
			leaves(v.Field(i), f)
		}
	case reflect.Slice:
		for i := range v.Len() {
			leaves(v.Index(i), f)
		}
		f(v)
	default:
		f(v)
	}
}

// weight is how many leaves g has.
func weight(g api.Group) int {
	n := 0
	leaves(reflect.ValueOf(&g).Elem(), func(reflect.Value) { n++ })
	return n
}

// changes are what may become of a leaf.
func changes(v reflect.Value) []func(v reflect.Value) {
	var l []func(v reflect.Value)
	switch v.Kind() {
	case reflect.Int:
		for _, d := range []int64{1, -1, 16, lastT} {
			l = append(l, func(v reflect.Value) { v.SetInt(v.Int() + d) })
		}
		for _, n := range []int64{0, 1, 5, 17, math.MaxInt64, math.MinInt64} {
			l = append(l, func(v reflect.Value) { v.SetInt(n) })
		}
	case reflect.Bool:
		l = append(l, func(v reflect.Value) { v.SetBool(!v.Bool()) })
	case reflect.String:
		for _, s := range []string{"", "a", "..", "\xff", "b~3.1.0", strings.Repeat("x", 33)} {
			l = append(l, func(v reflect.Value) { v.SetString(s) }, func(v reflect.Value) { v.SetString(v.String() + s) })
		}
	case reflect.Slice:
		l = append(l,
			func(v reflect.Value) { v.SetZero() },
			func(v reflect.Value) { v.Set(v.Slice(0, max(v.Len()-1, 0))) },
			func(v reflect.Value) { v.Set(v.Slice(min(1, v.Len()), v.Len())) },
			func(v reflect.Value) { v.Set(reflect.Append(v, reflect.Zero(v.Type().Elem()))) },
			func(v reflect.Value) {
				if v.Len() > 0 {
					v.Set(reflect.Append(v, v.Index(v.Len()-1)))
				}
			},
			func(v reflect.Value) {
				if v.Len() > 1 {
					reflect.Swapper(v.Interface())(0, v.Len()-1)
				}
			},
		)
	}
	return l
}

// neighbours are groups that differ from g in one leaf.
func neighbours(g api.Group) []api.Group {
	var all []api.Group
	at := 0
	leaves(reflect.ValueOf(&g).Elem(), func(v reflect.Value) {
		for _, change := range changes(v) {
			h := copied(g)
			n := 0
			var leaf reflect.Value
			leaves(reflect.ValueOf(&h).Elem(), func(v reflect.Value) {
				if n == at {
					leaf = v
				}
				n++
			})
			change(leaf)
			all = append(all, h)
		}
		at++
	})
	return all
}

// groupWith is a group {9, 4} of these operations.
func groupWith(ops ...api.Op) api.Group {
	return api.Group{Stamp: api.Stamp{T: 9, R: 4}, N: 3, Deps: []int{1, 0, 0, 2, 7}, Ops: ops}
}

// opOf is an operation that may be the first one of groupWith's group.
func opOf(kind int) api.Op {
	switch kind {
	case api.Make:
		return api.Op{Kind: kind, Node: idOf(9, 4, 0), Parent: idOf(3, 1, 2), Name: "d.1", Dir: true}
	case api.Move:
		return api.Op{Kind: kind, Node: idOf(3, 1, 0), Parent: idOf(3, 2, 0), Name: "m"}
	case api.Drop:
		return api.Op{Kind: kind, Node: idOf(3, 1, 0), Dots: []api.Stamp{{T: 3, R: 1}, {T: 3, R: 2}, {T: 9, R: 4}}}
	case api.Insert:
		return api.Op{Kind: kind, Node: idOf(3, 1, 0), After: idOf(3, 1, 1), Elem: idOf(9, 4, 0), Text: "a\u00e9b"}
	}
	return api.Op{Kind: kind, Node: idOf(3, 1, 0), Elems: []api.Id{idOf(3, 1, 1), idOf(3, 1, 3), idOf(8, 5, 0)}}
}

// rightOps are operations of each kind that may be the first one of groupWith's group.
func rightOps() []api.Op {
	l := []api.Op{opOf(0), opOf(1), opOf(2), opOf(3), opOf(4)}
	return append(l, api.Op{Kind: api.Make, Node: idOf(9, 4, 0), Name: "a"}, api.Op{Kind: api.Move, Node: idOf(1, 1, 0), Name: "a"}, api.Op{Kind: api.Drop, Node: idOf(1, 1, 0)}, api.Op{Kind: api.Insert, Node: idOf(1, 1, 0), Elem: idOf(9, 4, 0), Text: "x"}, api.Op{Kind: api.Erase, Node: idOf(1, 1, 0), Elems: []api.Id{idOf(1, 1, 1)}})
}

// shifted is o with what comes to be in it n ids later.
func shifted(o api.Op, n int) api.Op {
	if o.Kind == api.Make {
		o.Node.I += n
	} else {
		o.Elem.I += n
	}
	return o
}

// chaos is n numbers without a pattern, the same ones for the same seed.
func chaos(seed uint64, n int) []int {
	l := make([]int, n)
	for i := range l {
		seed ^= seed << 13
		seed ^= seed >> 7
		seed ^= seed << 17
		l[i] = int(seed >> 20)
	}
	return l
}

// drawnGroup is a group that may be, of operations without a pattern.
func drawnGroup(seed uint64) api.Group {
	dice := chaos(seed*2654435761+1, 400)
	throw := func(n int) int {
		c := dice[0]
		dice = dice[1:]
		return c % n
	}
	g := api.Group{Stamp: api.Stamp{T: 5 + throw(300), R: 1 + throw(lastR)}, N: 1 + throw(3)}
	g.Deps = make([]int, g.R+1)
	g.Deps[g.R-1], g.Deps[g.R], g.Deps[0] = g.N-1, 1+throw(200), max(1, throw(200))
	if g.R == 1 {
		g.Deps[0] = g.N - 1
	}
	g.Deps = g.Deps[:min(len(g.Deps), lastR)]
	for len(g.Deps) > 0 && g.Deps[len(g.Deps)-1] == 0 {
		g.Deps = g.Deps[:len(g.Deps)-1]
	}
	ids := 0
	old := func() api.Id {
		if ids > 0 && throw(2) == 0 {
			return api.Id{Stamp: g.Stamp, I: throw(ids)}
		}
		return idOf(1+throw(g.T-1), 1+throw(lastR), throw(500))
	}
	none := func() api.Id {
		if throw(2) == 0 {
			return api.Id{}
		}
		return old()
	}
	for range 1 + throw(9) {
		o := api.Op{Kind: throw(5), Node: old()}
		next := api.Id{Stamp: g.Stamp, I: ids}
		switch o.Kind {
		case api.Make:
			o.Node, o.Parent, o.Name, o.Dir = next, none(), strings.Repeat("n", 1+throw(32)), throw(2) == 0
		case api.Move:
			o.Parent, o.Name = none(), strings.Repeat(".", 3+throw(30))
		case api.Drop:
			for i := range throw(5) {
				o.Dots = append(o.Dots, api.Stamp{T: 1 + i/2, R: 3 + i})
			}
			if throw(2) == 0 {
				o.Dots = append(o.Dots, g.Stamp)
			}
		case api.Insert:
			o.After, o.Elem, o.Text = none(), next, strings.Repeat("\u00e9x", 1+throw(70))
		case api.Erase:
			for i := range 1 + throw(5) {
				o.Elems = append(o.Elems, idOf(1+i/2, 1+i, throw(300)))
			}
		}
		ids += born(o)
		g.Ops = append(g.Ops, o)
	}
	return g
}

// rightGroups are groups that may be: at the edges, and others.
func rightGroups() []api.Group {
	var l []api.Group
	for _, o := range rightOps() {
		l = append(l, groupWith(o))
	}
	l = append(l,
		groupWith(opOf(api.Make), opOf(api.Move), opOf(api.Drop), shifted(opOf(api.Insert), 1), opOf(api.Erase)),
		api.Group{Stamp: api.Stamp{T: 1, R: 1}, N: 1, Ops: []api.Op{{Kind: api.Make, Node: idOf(1, 1, 0), Name: "a", Dir: true}}},
		api.Group{Stamp: api.Stamp{T: lastT, R: lastR}, N: lastT, Deps: append(slices.Repeat([]int{lastT}, 15), lastT-1), Ops: []api.Op{{Kind: api.Move, Node: idOf(lastT, lastR-1, lastI), Parent: idOf(lastT-1, lastR, lastI), Name: strings.Repeat("x", 32)}}},
		api.Group{Stamp: api.Stamp{T: 1, R: 2}, N: 1, Undo: api.Stamp{T: 1, R: 1}},
		api.Group{Stamp: api.Stamp{T: 300, R: 3}, N: 129, Deps: []int{5, 0, 128}, Undo: api.Stamp{T: 299, R: 16}},
		api.Group{Stamp: api.Stamp{T: lastT, R: lastR}, N: 1, Undo: api.Stamp{T: lastT, R: lastR - 1}},
		groupWith(api.Op{Kind: api.Insert, Node: idOf(1, 1, 0), Elem: idOf(9, 4, 0), Text: strings.Repeat("\U0001F600", 2000)}),
		groupWith(api.Op{Kind: api.Erase, Node: idOf(1, 1, 0), Elems: elems(2000)}),
		groupWith(api.Op{Kind: api.Drop, Node: idOf(1, 1, 0), Dots: dots(130, false)}),
	)
	for seed := range uint64(60) {
		l = append(l, drawnGroup(seed))
	}
	return l
}

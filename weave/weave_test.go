package weave_test

import (
	"fmt"
	"math"
	"math/rand"
	"slices"
	"strings"
	"testing"
	"unicode/utf8"

	"recension/api"
	"recension/weave"
)

const (
	least    = math.MinInt
	greatest = math.MaxInt
)

// none is the empty id: the beginning.
func none() api.Id { return api.Id{} }

// example is the chapter's.
func example() []api.Run {
	return []api.Run{run(none(), id(1, 1, 0), "ab"), run(id(1, 1, 0), id(2, 2, 0), "X"), run(id(1, 1, 0), id(3, 1, 0), "Y")}
}

// with is l and more, in a list of its own.
func with(l []api.Run, more ...api.Run) []api.Run { return slices.Concat(l, more) }

func TestExample(t *testing.T) {
	want := []api.Id{id(1, 1, 0), id(3, 1, 0), id(2, 2, 0), id(1, 1, 1)}
	ordersOf(example(), func(l []api.Run) {
		checkOrder(t, l, want, "aYXb")
		checkSeen(t, l, []api.Stamp{{T: 1, R: 1}, {T: 2, R: 2}, {T: 3, R: 1}}, nil, want, "aYXb")
		check(t, l)
	})
}

// asked is a list of runs, and the text of their order.
type asked struct {
	why  string
	l    []api.Run
	text string
}

// edges are those that the chapter names.
func edges() []asked {
	a := run(none(), id(5, 2, 7), "abc")
	first, middle, last := id(5, 2, 7), id(5, 2, 8), id(5, 2, 9)
	x := func(after api.Id, text string) api.Run { return run(after, id(6, 1, 0), text) }
	y := func(after api.Id, text string) api.Run { return run(after, id(7, 1, 0), text) }
	return []asked{
		{"no runs", nil, ""},
		{"a run without elements", []api.Run{{}}, ""},
		{"the empty text", []api.Run{x(none(), "")}, ""},
		{"the empty text, and what stands behind its name", []api.Run{x(none(), ""), y(id(6, 1, 0), "y")}, ""},
		{"the empty text, which takes no name", []api.Run{x(id(8, 1, 0), ""), x(none(), "x")}, "x"},
		{"one code point", []api.Run{x(none(), "x")}, "x"},
		{"many code points", []api.Run{x(none(), strings.Repeat("abcdef", 40))}, strings.Repeat("abcdef", 40)},
		{"more bytes than one", []api.Run{x(none(), "é€😀\ufffd\x00e\u0301"), y(id(6, 1, 1), "Ω")}, "é€Ω😀\ufffd\x00e\u0301"},
		{"the last code point", []api.Run{x(none(), "\U0010ffff\ud7ff\ue000")}, "\U0010ffff\ud7ff\ue000"},
		{"no text", []api.Run{x(none(), "a\xffb")}, ""},
		{"no text, cut short", []api.Run{a, x(first, "a\xe2\x82"), y(id(6, 1, 0), "y")}, "abc"},
		{"no text, which takes no names", []api.Run{x(none(), "\xed\xa0\x80\xff"), x(none(), "ok"), a}, "okabc"},
		{"no text behind a text", []api.Run{a, x(last, "\x80"), y(first, "y")}, "aybc"},
		{"behind the empty id", []api.Run{a, x(none(), "xx")}, "xxabc"},
		{"behind the empty id, an older one", []api.Run{a, run(none(), id(5, 1, 7), "xx")}, "abcxx"},
		{"behind the first one", []api.Run{a, x(first, "xx")}, "axxbc"},
		{"behind a middle one", []api.Run{a, x(middle, "xx")}, "abxxc"},
		{"behind the last one", []api.Run{a, x(last, "xx")}, "abcxx"},
		{"behind the first one, an older one", []api.Run{a, run(first, id(5, 1, 0), "xx")}, "abcxx"},
		{"behind one in a later run", []api.Run{y(id(6, 1, 1), "y"), x(middle, "xx"), a}, "abxxyc"},
		{"behind one that never comes", []api.Run{a, x(id(5, 2, 10), "xx")}, "abc"},
		{"behind one that never comes, by T", []api.Run{a, x(id(4, 2, 7), "xx")}, "abc"},
		{"behind one that never comes, by R", []api.Run{a, x(id(5, 1, 7), "xx"), y(id(6, 1, 1), "y")}, "abc"},
		{"behind one that never comes, ahead of the first one", []api.Run{a, x(id(5, 2, 6), "xx")}, "abc"},
		{"behind itself", []api.Run{a, x(id(6, 1, 0), "xx")}, "abc"},
		{"behind itself, further on", []api.Run{a, x(id(6, 1, 1), "xx"), y(id(6, 1, 0), "y")}, "abc"},
		{"a circle of two", []api.Run{a, x(id(7, 1, 0), "xx"), y(id(6, 1, 1), "yy")}, "abc"},
		{"a circle of three", []api.Run{x(id(8, 1, 0), "x"), a, y(id(6, 1, 0), "y"), run(id(7, 1, 0), id(8, 1, 0), "z")}, "abc"},
		{"a circle, and the beginning", []api.Run{x(id(7, 1, 0), "x"), y(id(6, 1, 0), "y"), run(none(), id(6, 1, 0), "z")}, ""},
		{"no circle, as the first one counts", []api.Run{run(none(), id(6, 1, 0), "z"), x(id(7, 1, 0), "x"), y(id(6, 1, 0), "y")}, "zy"},
	}
}

func TestEdges(t *testing.T) {
	for _, x := range edges() {
		if _, s := weave.Order(x.l); s != x.text {
			t.Errorf("I1: %s: %+q, not %+q", x.why, short(s), short(x.text))
		}
		ordersOf(x.l, func(l []api.Run) { check(t, l) })
	}
}

// rising are names, each the next greater one by I, by R or by T. The greater ones have smaller numbers behind the one that tells.
func rising() []api.Id {
	return []api.Id{
		id(least, greatest, greatest), id(least+1, least, 0), id(-1, 5, 5), id(0, -1, 9), id(0, 0, -1), id(0, 0, 1), id(0, 1, least), id(1, 0, 3), id(1, 1, -2), id(1, 1, 0), id(1, 1, 1), id(1, 1, 10),
		id(1, 2, 0), id(1, 2, 400000), id(1, 2, 400001), id(1, 3, 0), id(1, 16, 0), id(1, 17, 0), id(2, 1, 0), id(9, 1, 0), id(10, 1, 0), id(10, 1, greatest), id(1<<32, 1, 1<<32), id(1<<32, 1, 1<<32+1), id(1<<40, 16, 0), id(1<<40+1, 1, 0), id(greatest, greatest, greatest-1), id(greatest, greatest, greatest),
	}
}

func TestGreatestNameFirst(t *testing.T) {
	names := rising()
	signs := []rune("0123456789abcdefghijklmnopqrstuvwxyz")
	for _, after := range []api.Id{none(), id(5, 5, 5)} {
		var l []api.Run
		for i, x := range names {
			l = append(l, run(after, x, string(signs[i])))
		}
		if after != none() {
			l = append(l, run(none(), after, "-"))
		}
		var want strings.Builder
		if after != none() {
			want.WriteString("-")
		}
		for i := range names {
			want.WriteRune(signs[len(names)-1-i])
		}
		draw := rand.New(rand.NewSource(1))
		for range 200 {
			draw.Shuffle(len(l), func(i, j int) { l[i], l[j] = l[j], l[i] })
			if ids, s := weave.Order(l); s != want.String() || after == none() && !slices.IsSortedFunc(ids, newerFirst) {
				t.Fatalf("I1: several behind one: %s, not %s", s, want.String())
			}
		}
		check(t, l)
	}
}

func TestSeveralBehindOneInEachOrder(t *testing.T) {
	for _, x := range []struct {
		why   string
		names []api.Id
	}{
		{"by T", []api.Id{id(4, 1, 1), id(3, 2, 2), id(2, 3, 3), id(1, 4, 4)}},
		{"by R", []api.Id{id(9, 4, 1), id(9, 3, 2), id(9, 2, 3), id(9, 1, 4)}},
		{"by I", []api.Id{id(9, 9, 4), id(9, 9, 3), id(9, 9, 2), id(9, 9, 1)}},
		{"by T, then R, then I", []api.Id{id(2, 1, 0), id(1, 2, 0), id(1, 1, 1), id(1, 1, 0)}},
	} {
		for _, behind := range []api.Id{none(), id(5, 5, 0), id(5, 5, 1), id(5, 5, 2)} {
			var l []api.Run
			for i, name := range x.names {
				l = append(l, run(behind, name, "wxyz"[i:i+1]))
			}
			l = append(l, run(none(), id(5, 5, 0), "abc"))
			_, want := weave.Order(l)
			if behind != none() && want != "abc"[:behind.I+1]+orderedBeside(x.names, behind, "abc"[behind.I+1:]) {
				t.Errorf("I1: %s, behind %v: %q", x.why, behind, want)
			}
			ordersOf(l, func(l []api.Run) { check(t, l) })
		}
	}
}

// orderedBeside is what stands behind an element: wxyz, and the rest of its own run, which is named next to it, among them.
func orderedBeside(names []api.Id, behind api.Id, rest string) string {
	s, put := "", rest == ""
	for i, name := range names {
		if !put && newerFirst(further(behind, 1), name) < 0 {
			s, put = s+rest, true
		}
		s += "wxyz"[i : i+1]
	}
	if !put {
		s += rest
	}
	return s
}

func TestWhatStandsBehindComesAtOnce(t *testing.T) {
	l := []api.Run{
		run(none(), id(1, 1, 0), "abc"),
		run(id(1, 1, 0), id(2, 1, 0), "xy"),   // behind a
		run(id(1, 1, 0), id(3, 1, 0), "pq"),   // behind a, newer
		run(id(2, 1, 0), id(9, 1, 0), "12"),   // behind x, newer than all behind a
		run(id(3, 1, 1), id(4, 1, 0), "34"),   // behind q
		run(id(1, 1, 1), id(8, 1, 0), "56"),   // behind b
		run(none(), id(7, 1, 0), "first"),     // behind the beginning, newer
		run(id(7, 1, 4), id(1, 1, 9), "last"), // behind its last one, older than all
	}
	const want = "firstlast" + "a" + "pq34" + "x12y" + "b56c"
	for range 3 {
		_, s := weave.Order(l)
		if s != want {
			t.Fatalf("I1: %q, not %q", s, want)
		}
		slices.Reverse(l)
	}
	check(t, l)
}

func TestOneName(t *testing.T) {
	all := example()
	for _, x := range []asked{
		{"the same run twice", with(all, all...), "aYXb"},
		{"a run's first name is one further on", with(all, run(none(), id(1, 1, 1), "pq")), "aYXbq"},
		{"so ahead of it", append([]api.Run{run(none(), id(1, 1, 1), "pq")}, all...), "pqaYX"},
		{"a run's last name is another's first", with(all, run(id(1, 1, 1), id(1, 1, -1), "pq")), "aYXbp"},
		{"so ahead of it, behind what is not there", append([]api.Run{run(id(8, 8, 8), id(1, 1, -1), "pq")}, all...), ""},
		{"so ahead of it, and the one behind it is the run's own", append([]api.Run{run(none(), id(1, 1, -1), "pq")}, all...), "pqYXb"},
		{"another text of the same names", with(all, run(none(), id(1, 1, 0), "pqr")), "aYXbr"},
		{"another text, elsewhere", with(all, run(id(3, 1, 0), id(1, 1, 0), "pqr"), run(id(1, 1, 2), id(5, 1, 0), "Z")), "aYXbrZ"},
		{"another text that is none", with(all, run(none(), id(1, 1, 0), "p\xff")), "aYXb"},
		{"ahead of all a text that is none", append([]api.Run{run(none(), id(1, 1, 0), "p\xff")}, all...), "aYXb"},
		{"what does not count, behind what is not there", with(all, run(id(8, 8, 8), id(2, 2, 0), "pq")), "aYXqb"},
		{"what does not count stands behind what does", with(all, run(id(3, 1, 0), id(2, 2, 0), "p")), "aYXb"},
		{"what does not count closes no circle", with(all, run(id(1, 1, 1), id(1, 1, 0), "p")), "aYXb"},
		{"what counts closes one", append([]api.Run{run(id(1, 1, 1), id(1, 1, 0), "p")}, all...), ""},
		{"in its middle another stands behind a name", with(all, run(id(1, 1, 0), id(2, 2, -1), "pqr")), "aYXrpb"},
		{"three have it", with(all, run(none(), id(3, 1, 0), "p"), run(none(), id(3, 1, 0), "q"), run(id(3, 1, 0), id(4, 1, 0), "Z")), "aYZXb"},
	} {
		if _, s := weave.Order(x.l); s != x.text {
			t.Errorf("I1: %s: %q, not %q", x.why, s, x.text)
		}
		ordersOf(x.l, func(l []api.Run) { check(t, l) })
	}
}

func TestTheEmptyName(t *testing.T) {
	all := example()
	for _, x := range []asked{
		{"the first one", with(all, run(none(), none(), "pq")), "aYXbq"},
		{"the first one, alone", []api.Run{run(none(), none(), "p")}, ""},
		{"the first one, behind another", with(all, run(id(2, 2, 0), none(), "pqr")), "aYXbqr"},
		{"the first one, behind what is not there", with(all, run(id(8, 8, 8), none(), "pq")), "aYXbq"},
		{"further on", with(all, run(id(3, 1, 0), id(0, 0, -2), "pqrst")), "aYpqXbst"},
		{"further on, behind the beginning", []api.Run{run(none(), id(0, 0, -1), "pqr")}, "rp"},
		{"the last one", with(all, run(none(), id(0, 0, -2), "pqr")), "aYXbpq"},
		{"twice", with(all, run(id(2, 2, 0), none(), "pq"), run(none(), none(), "xyz")), "aYXbqz"},
		{"another stands behind the empty id", with(all, run(id(2, 2, 0), none(), "pq"), run(none(), id(0, 0, 5), "Z")), "aYXbZq"},
		{"another stands behind what is behind it", with(all, run(id(2, 2, 0), none(), "pq"), run(id(0, 0, 1), id(9, 1, 0), "Z")), "aYXbqZ"},
		{"of parts of the empty id alone", []api.Run{run(none(), id(0, 0, 1), "p"), run(none(), id(0, 1, 0), "q"), run(none(), id(1, 0, 0), "r")}, "rqp"},
	} {
		if _, s := weave.Order(x.l); s != x.text {
			t.Errorf("I1: %s: %q, not %q", x.why, s, x.text)
		}
		ordersOf(x.l, func(l []api.Run) { check(t, l) })
	}
}

func TestNamesAtTheEnds(t *testing.T) {
	l := []api.Run{run(none(), id(1, 1, greatest-1), "abcd")}
	checkOrder(t, l, []api.Id{id(1, 1, greatest-1), id(1, 1, greatest), id(1, 1, least), id(1, 1, least+1)}, "abcd")
	checkOrder(t, with(l, run(id(1, 1, greatest), id(2, 1, 0), "X")), []api.Id{id(1, 1, greatest-1), id(1, 1, greatest), id(2, 1, 0), id(1, 1, least), id(1, 1, least+1)}, "abXcd")
	checkOrder(t, with(l, run(id(1, 1, greatest), id(1, 1, 0), "X")), []api.Id{id(1, 1, greatest-1), id(1, 1, greatest), id(1, 1, 0), id(1, 1, least), id(1, 1, least+1)}, "abXcd") // greater than the least one
	checkOrder(t, with(l, run(none(), id(1, 1, least), "xy")), []api.Id{id(1, 1, greatest-1), id(1, 1, greatest), id(1, 1, least), id(1, 1, least+1)}, "abcd")
	checkOrder(t, with(l, run(id(1, 1, least), id(1, 1, least+2), "x")), []api.Id{id(1, 1, greatest-1), id(1, 1, greatest), id(1, 1, least), id(1, 1, least+2), id(1, 1, least+1)}, "abcxd")
	checkOrder(t, []api.Run{run(none(), id(0, 0, greatest), "ab")}, []api.Id{id(0, 0, greatest), id(0, 0, least)}, "ab")
	for _, n := range []int{least, least + 1, -1, 0, 1, 1 << 40, greatest - 1, greatest} {
		for _, m := range []int{least, -1, 0, 16, 17, greatest} {
			for _, i := range []int{least, least + 1, -2, -1, 0, 399999, 400000, 400001, math.MaxInt32, greatest - 1, greatest} {
				x := id(n, m, i)
				check(t, []api.Run{run(none(), x, "abc"), run(x, id(m, n, i), "de"), run(further(x, 1), id(3, 3, 3), "f")})
				check(t, []api.Run{run(x, id(1, 1, 0), "ab"), run(none(), id(n, m, further(x, -1).I), "xyz")})
			}
		}
	}
}

func TestSeen(t *testing.T) {
	l := append(example(), run(id(2, 2, 0), id(4, 1, 0), "zw"))
	one, two, three, four := api.Stamp{T: 1, R: 1}, api.Stamp{T: 2, R: 2}, api.Stamp{T: 3, R: 1}, api.Stamp{T: 4, R: 1}
	all := []api.Stamp{one, two, three, four}
	for _, x := range []struct {
		on   []api.Stamp
		gone []api.Id
		text string
	}{
		{nil, nil, ""},
		{nil, []api.Id{id(1, 1, 0)}, ""},
		{all, nil, "aYXzwb"},
		{slices.Concat(all, all, all), nil, "aYXzwb"},
		{[]api.Stamp{four, four, one, four}, nil, "azwb"}, // what they stand behind is not seen
		{[]api.Stamp{four}, nil, "zw"},
		{[]api.Stamp{one}, nil, "ab"},
		{[]api.Stamp{two, three}, nil, "YX"},
		{[]api.Stamp{{T: 1, R: 2}, {T: 2, R: 1}, {T: 9, R: 9}, {}, {T: -1, R: least}}, nil, ""}, // of none of these there are elements
		{append([]api.Stamp{{T: 1, R: 2}, {}}, all...), nil, "aYXzwb"},
		{all, []api.Id{id(1, 1, 1), id(3, 1, 0)}, "aXzw"},
		{all, []api.Id{id(1, 1, 0)}, "YXzwb"}, // all stand behind it
		{all, []api.Id{id(2, 2, 0)}, "aYzwb"},
		{all, []api.Id{id(4, 1, 0)}, "aYXwb"},
		{all, []api.Id{id(4, 1, 1), id(4, 1, 1), id(4, 1, 1)}, "aYXzb"}, // twice is not back
		{all, []api.Id{id(4, 1, 0), id(4, 1, 0)}, "aYXwb"},
		{all, []api.Id{none(), id(4, 1, 2), id(4, 2, 0), id(1, 1, -1), id(9, 9, 9), id(least, 0, greatest)}, "aYXzwb"},
		{all, []api.Id{id(1, 1, 0), id(1, 1, 1), id(2, 2, 0), id(3, 1, 0), id(4, 1, 0), id(4, 1, 1)}, ""},
		{[]api.Stamp{one, three}, []api.Id{id(1, 1, 0), id(2, 2, 0)}, "Yb"},
		{[]api.Stamp{three}, []api.Id{id(3, 1, 0)}, ""},
	} {
		ordersOf(l, func(l []api.Run) {
			some := seenOf(ordered(l), x.on, x.gone)
			ids, text := told(some)
			if text != x.text {
				t.Fatalf("the reckoning is wrong: %q, not %q", text, x.text)
			}
			checkSeen(t, l, x.on, x.gone, ids, x.text)
		})
	}
	checkSeen(t, nil, all, []api.Id{id(1, 1, 0)}, nil, "")
	checkSeen(t, []api.Run{run(none(), none(), "pq")}, []api.Stamp{{}}, nil, []api.Id{id(0, 0, 1)}, "q")
	checkSeen(t, []api.Run{run(none(), id(0, 0, -1), "pqr")}, []api.Stamp{{}}, []api.Id{none(), id(0, 0, 1)}, []api.Id{id(0, 0, -1)}, "p")
	checkSeen(t, []api.Run{run(none(), id(-1, 99, least), "é")}, []api.Stamp{{T: -1, R: 99}}, []api.Id{id(-1, 99, greatest)}, []api.Id{id(-1, 99, least)}, "é")
	checkSeen(t, with(example(), run(none(), id(1, 1, 0), "p")), []api.Stamp{one}, []api.Id{id(1, 1, 0)}, []api.Id{id(1, 1, 1)}, "b") // gone is the name: the other one that has it does not come in its place
}

func TestAllSmallLists(t *testing.T) {
	var some []api.Run
	for _, after := range []api.Id{none(), id(0, 0, 1), id(0, 1, 0), id(1, 0, 0)} {
		for _, elem := range []api.Id{none(), id(0, 0, 1), id(0, 1, 0), id(0, 1, -1)} {
			for _, text := range []string{"a", "éb", "\xff"} {
				some = append(some, run(after, elem, text))
			}
		}
	}
	for _, x := range some {
		check(t, []api.Run{x})
		for _, y := range some {
			check(t, []api.Run{x, y})
		}
	}
	some = slices.DeleteFunc(some, func(r api.Run) bool { return r.Text == "\xff" })
	for _, x := range some {
		for _, y := range some {
			for _, z := range some {
				check(t, []api.Run{x, y, z})
			}
		}
	}
}

// drawn are runs whose names are of so few that some meet, or none of which meet; many stand behind one another.
func drawn(draw *rand.Rand, meet bool) []api.Run {
	texts := []string{"", "a", "b", "xy", "é€", "pqr", "😀", "\xff", "lmnop"}
	anyId := func() api.Id { return id(draw.Intn(4), draw.Intn(3), draw.Intn(6)-1) }
	var l []api.Run
	for n := range draw.Intn(14) {
		r := run(anyId(), anyId(), texts[draw.Intn(len(texts))])
		if !meet {
			r.Elem.I = 10*n + 1
		}
		if all := elementsOf(l); len(all) > 0 && draw.Intn(4) > 0 {
			r.After = all[draw.Intn(len(all))].name
		} else if draw.Intn(2) > 0 {
			r.After = none()
		}
		l = append(l, r)
	}
	draw.Shuffle(len(l), func(i, j int) { l[i], l[j] = l[j], l[i] })
	return l
}

func TestDrawnRuns(t *testing.T) {
	draw := rand.New(rand.NewSource(2))
	told, left := 0, 0
	for i := range 20000 {
		l := drawn(draw, i%2 == 0)
		check(t, l)
		ids, _ := weave.Order(l)
		told += len(ids)
		left += len(counted(l)) - len(ids)
	}
	if told < 50000 || left < 10000 {
		t.Errorf("I1: %d elements were told, %d left out: they tell too little", told, left)
	}
}

// isPartOf tells whether what is in l is in all, in the same order.
func isPartOf(l, all []api.Id) bool {
	for _, x := range all {
		if len(l) > 0 && l[0] == x {
			l = l[1:]
		}
	}
	return len(l) == 0
}

func TestWithMoreRunsTheOrderStays(t *testing.T) {
	draw := rand.New(rand.NewSource(3))
	for i := range 3000 {
		l := drawn(draw, i%2 == 0)
		var was []api.Id
		var points map[api.Id]string
		for n := range len(l) + 1 {
			ids, _ := weave.Order(l[:n])
			if !isPartOf(was, ids) {
				t.Fatalf("I3: of %s the last one made of %v %v", short(l[:n]), was, ids)
			}
			now := map[api.Id]string{}
			for _, x := range ordered(l[:n]) {
				now[x.name] = x.point
			}
			for x, point := range points {
				if now[x] != point {
					t.Fatalf("I3: of %s the last one made of %v %q, not %q", short(l[:n]), x, now[x], point)
				}
			}
			was, points = ids, now
		}
	}
	l := with(example(), run(id(1, 1, 0), id(2, 9, 0), "new"), run(none(), id(9, 9, 9), "first"), run(id(3, 1, 0), id(1, 1, 7), "old"))
	for n := range l {
		ids, _ := weave.Order(l[:n])
		more, _ := weave.Order(l)
		if !isPartOf(ids, more) {
			t.Errorf("I3: %v, with more %v", ids, more)
		}
	}
}

func TestInWhateverOrderRunsCome(t *testing.T) {
	draw := rand.New(rand.NewSource(4))
	for range 2000 {
		l := drawn(draw, false)
		ids, text := weave.Order(l)
		for range 5 {
			draw.Shuffle(len(l), func(i, j int) { l[i], l[j] = l[j], l[i] })
			checkOrder(t, l, ids, text)
		}
		slices.Reverse(l)
		checkOrder(t, l, ids, text)
		if t.Failed() {
			t.FailNow()
		}
	}
}

func TestEachStandsBehindWhatItStandsBehind(t *testing.T) {
	draw := rand.New(rand.NewSource(5))
	for i := range 3000 {
		l := drawn(draw, i%2 == 0)
		ids, text := weave.Order(l)
		behind := map[api.Id]element{}
		for _, x := range counted(l) {
			behind[x.name] = x
		}
		open := []api.Id{none()} // those behind which the next one may stand: the one told last, what that stands behind, and so on
		last := map[api.Id]api.Id{}
		points := []rune(text)
		if len(points) != len(ids) || !utf8.ValidString(text) {
			t.Fatalf("I1: %s: %d names, %d code points", short(l), len(ids), len(points))
		}
		for n, x := range ids {
			e, is := behind[x]
			at := slices.Index(open, e.behind)
			if !is || at < 0 {
				t.Fatalf("I3: %s: %v stands behind %v, but not in %v", short(l), x, e.behind, ids)
			}
			if e.point != string(points[n]) {
				t.Fatalf("I1: %s: %v is %q, not %q", short(l), x, e.point, points[n])
			}
			if sister, is := last[e.behind]; is && newerFirst(sister, x) >= 0 {
				t.Fatalf("I1: %s: %v comes ahead of %v, which is newer", short(l), sister, x)
			}
			last[e.behind] = x
			open = append(open[:at+1], x)
			delete(behind, x)
		}
		for x, e := range behind {
			if e.behind == none() || slices.Contains(ids, e.behind) {
				t.Fatalf("I1: %s: %v is left out", short(l), x)
			}
		}
	}
}

func TestWhatIsSeenIsOfTheOrder(t *testing.T) {
	draw := rand.New(rand.NewSource(6))
	for i := range 3000 {
		l := drawn(draw, i%2 == 0)
		ids, text := weave.Order(l)
		points := []rune(text)
		var on []api.Stamp
		var gone []api.Id
		for range draw.Intn(12) {
			on = append(on, api.Stamp{T: draw.Intn(5), R: draw.Intn(4)})
		}
		for range draw.Intn(8) {
			gone = append(gone, id(draw.Intn(4), draw.Intn(3), draw.Intn(6)-1))
			if len(ids) > 0 {
				gone = append(gone, ids[draw.Intn(len(ids))])
			}
		}
		var want []api.Id
		s := ""
		for n, x := range ids {
			if slices.Contains(on, x.Stamp) && !slices.Contains(gone, x) {
				want = append(want, x)
				s += string(points[n])
			}
		}
		checkSeen(t, l, on, gone, want, s)
		slices.Reverse(on)
		slices.Reverse(gone)
		checkSeen(t, l, append(on, on...), append(gone, gone...), want, s)
	}
}

func TestGreatManyBehindOne(t *testing.T) {
	const n = 300000
	rising := make([]api.Run, n)
	for i := range rising {
		rising[i] = run(id(1, 1, 0), id(2+i/1000, 1+i%10, i), "x")
	}
	falling := slices.Clone(rising)
	slices.Reverse(falling)
	mixed := slices.Clone(rising)
	rand.New(rand.NewSource(7)).Shuffle(n, func(i, j int) { mixed[i], mixed[j] = mixed[j], mixed[i] })
	for _, l := range [][]api.Run{rising, falling, mixed} {
		l = append(l, run(none(), id(1, 1, 0), "ab"))
		ids, text := weave.Order(l)
		if len(ids) != n+2 || text != "a"+strings.Repeat("x", n)+"b" || !slices.IsSortedFunc(ids[1:], newerFirst) {
			t.Fatalf("I1: a great many behind one: %d, %d bytes", len(ids), len(text))
		}
		some, text := weave.Seen(l, []api.Stamp{{T: 2, R: 1}, {T: 1, R: 1}}, ids[:1])
		if len(some) != 101 || text != strings.Repeat("x", 100)+"b" {
			t.Fatalf("I2: a great many behind one: %d, %d bytes", len(some), len(text))
		}
	}
}

// chain are n runs, each behind the one ahead of it.
func chain(n int) []api.Run {
	l := make([]api.Run, n)
	for i := range l {
		l[i] = run(id(i, 1, 0), id(i+1, 1, 0), "x")
	}
	l[0].After = none()
	return l
}

func TestLongChain(t *testing.T) {
	const n = 300000
	l := chain(n)
	for range 2 {
		ids, text := weave.Order(l)
		if len(ids) != n || text != strings.Repeat("x", n) || ids[0] != id(1, 1, 0) || ids[n-1] != id(n, 1, 0) {
			t.Fatalf("I1: a long chain: %d, %d bytes", len(ids), len(text))
		}
		ids, text = weave.Seen(l, []api.Stamp{{T: n, R: 1}, {T: 1, R: 1}, {T: n / 2, R: 1}}, []api.Id{id(n/2, 1, 0)})
		if !slices.Equal(ids, []api.Id{id(1, 1, 0), id(n, 1, 0)}) || text != "xx" {
			t.Fatalf("I2: a long chain: %v %q", ids, text)
		}
		slices.Reverse(l)
	}
	l[0].After = id(n, 1, 0) // the first one behind the last one: a circle
	checkOrder(t, l, nil, "")
	checkSeen(t, l, []api.Stamp{{T: 1, R: 1}}, nil, nil, "")
	one := []api.Run{run(none(), id(1, 1, 0), strings.Repeat("é", n))}
	if ids, text := weave.Order(one); len(ids) != n || text != one[0].Text || ids[n-1] != id(1, 1, n-1) {
		t.Errorf("I1: a long run: %d, %d bytes", len(ids), len(text))
	}
}

func TestManyOnAndGone(t *testing.T) {
	const n = 100000
	l := chain(n)
	var on []api.Stamp
	var gone []api.Id
	for i := range n {
		on = append(on, api.Stamp{T: n - i, R: 1})
		if i%2 == 1 {
			gone = append(gone, id(n-i, 1, 0))
		}
	}
	ids, text := weave.Seen(l, on, gone)
	if len(ids) != n/2 || text != strings.Repeat("x", n/2) || ids[0] != id(2, 1, 0) || ids[n/2-1] != id(n, 1, 0) {
		t.Errorf("I2: many on and gone: %d, %d bytes", len(ids), len(text))
	}
}

func TestArgumentsStay(t *testing.T) {
	runs := with(example(), run(id(2, 2, 0), id(4, 1, 0), "zw"), run(none(), none(), "pq"), run(id(1, 1, 0), id(1, 1, 1), "r"))
	stamps := []api.Stamp{{T: 4, R: 1}, {T: 1, R: 1}, {T: 1, R: 1}, {T: 9, R: 9}, {T: 8, R: 8}}
	names := []api.Id{id(4, 1, 1), id(1, 1, 0), id(1, 1, 0), id(9, 9, 9)}
	l, on, gone := slices.Clone(runs), slices.Clone(stamps), slices.Clone(names)
	ids, text := weave.Order(l[:4])
	seen, s := weave.Seen(l[:4], on[:3], gone[:2])
	if !slices.Equal(l, runs) || !slices.Equal(on, stamps) || !slices.Equal(gone, names) {
		t.Error("R3: what is handed in, or stands behind it, was written into")
	}
	for _, list := range [][]api.Id{ids, seen} {
		list = append(list, id(7, 7, 7))
		for i := range list {
			list[i] = id(7, 7, 7)
		}
	}
	if !slices.Equal(l, runs) || !slices.Equal(on, stamps) || !slices.Equal(gone, names) {
		t.Error("what comes out shares memory with what is handed in")
	}
	again, more := weave.Order(l[:4])
	checkOrder(t, l[:4], []api.Id{id(1, 1, 0), id(3, 1, 0), id(2, 2, 0), id(4, 1, 0), id(4, 1, 1), id(1, 1, 1)}, "aYXzwb")
	for i := range l { // nor does what came out change with what was handed in
		l[i] = api.Run{}
	}
	if text != "aYXzwb" || s != "zb" || more != text || again[0] != id(1, 1, 0) || len(again) != 6 {
		t.Errorf("what came out was kept: %q %q %q %v", text, s, more, again)
	}
}

func TestAnswersHangOnArgumentsAlone(t *testing.T) {
	draw := rand.New(rand.NewSource(8))
	all := func(l []api.Run) string {
		ids, text := weave.Order(l)
		some, s := weave.Seen(l, stampsOf(elementsOf(l)), ids[:len(ids)/2])
		return fmt.Sprintf("%v %q %v %q", ids, text, some, s)
	}
	var lists [][]api.Run
	var answers []string
	for i := range 300 {
		l := drawn(draw, i%2 == 0)
		lists, answers = append(lists, l), append(answers, all(l))
	}
	for range 5 {
		for i, l := range lists {
			if got := all(l); got != answers[i] {
				t.Fatalf("R4: %s: %s, then %s", short(l), answers[i], got)
			}
		}
	}
}

// runsOf are runs made of bytes: as many of them as each run's numbers and text take.
func runsOf(b []byte) []api.Run {
	var l []api.Run
	numbers := []int{0, 1, 2, 3, -1, 400000, greatest, least}
	at := func(i int) int { return numbers[b[i]%8] }
	for len(b) >= 8 && len(l) < 40 {
		n := min(int(b[6]%4), len(b)-8)
		l = append(l, run(id(at(0), at(1), at(2)), id(at(3), at(4), at(5)), string(b[7:7+n])))
		b = b[7+n:]
	}
	return l
}

func FuzzWeave(f *testing.F) {
	f.Add([]byte("\x00\x00\x00\x01\x01\x00\x02ab\x01\x01\x00\x02\x02\x00\x01X\x01\x01\x00\x03\x01\x00\x01Y......."))
	f.Add([]byte("\x00\x00\x00\x00\x00\x00\x02pq\x01\x01\x00\x02\x02\x06\x03XYZ......."))
	f.Add([]byte("\x00\x00\x00\x00\x00\x04\x03pqr\x01\x01\x00\x02\x02\x06\x02\xc3\xa9......."))
	f.Fuzz(func(t *testing.T, b []byte) { check(t, runsOf(b)) })
}

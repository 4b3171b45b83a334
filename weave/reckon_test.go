package weave_test

import (
	"cmp"
	"fmt"
	"slices"
	"testing"
	"unicode/utf8"

	"recension/api"
	"recension/weave"
)

// What the promises say, reckoned another way than the program does: each element's way from the beginning is climbed up from the element itself, and elements are sorted by their ways.

// element is a code point, its name, and what it stands behind.
type element struct {
	behind, name api.Id
	point        string
}

// id is what is named by these numbers.
func id(t, r, i int) api.Id { return api.Id{Stamp: api.Stamp{T: t, R: r}, I: i} }

// run is a run behind after.
func run(after, elem api.Id, text string) api.Run {
	return api.Run{After: after, Elem: elem, Text: text}
}

// further is x with an I greater by n, round behind the greatest one.
func further(x api.Id, n int) api.Id {
	x.I = int(uint64(x.I) + uint64(n))
	return x
}

// elementsOf are all elements of l, whether they count or not.
func elementsOf(l []api.Run) []element {
	var all []element
	for _, r := range l {
		if !utf8.ValidString(r.Text) {
			continue
		}
		for n, point := range []rune(r.Text) {
			behind := r.After
			if n > 0 {
				behind = further(r.Elem, n-1)
			}
			all = append(all, element{behind, further(r.Elem, n), string(point)})
		}
	}
	return all
}

// counted are those of l that count.
func counted(l []api.Run) []element {
	var all []element
	for _, x := range elementsOf(l) {
		first := !slices.ContainsFunc(all, func(y element) bool { return y.name == x.name })
		if first && x.name != id(0, 0, 0) {
			all = append(all, x)
		}
	}
	return all
}

// wayTo are the names on the way from the beginning to x, itself behind them; and whether there is a way.
func wayTo(x element, all []element) ([]api.Id, bool) {
	way := []api.Id{x.name}
	for x.behind != id(0, 0, 0) {
		at := slices.IndexFunc(all, func(y element) bool { return y.name == x.behind })
		if at < 0 || len(way) > len(all) {
			return nil, false
		}
		x = all[at]
		way = append(way, x.name)
	}
	slices.Reverse(way)
	return way, true
}

// newerFirst is -1, 0 or 1, as a is the greater name, the same, or the smaller one.
func newerFirst(a, b api.Id) int {
	return slices.Compare([]int{b.T, b.R, b.I}, []int{a.T, a.R, a.I})
}

// ordered reckons the order.
func ordered(l []api.Run) []element {
	type placed struct {
		element
		way []api.Id
	}
	var some []placed
	all := counted(l)
	for _, x := range all {
		if way, ok := wayTo(x, all); ok {
			some = append(some, placed{x, way})
		}
	}
	slices.SortFunc(some, func(a, b placed) int { return slices.CompareFunc(a.way, b.way, newerFirst) })
	order := make([]element, len(some))
	for i, x := range some {
		order[i] = x.element
	}
	return order
}

// told are the names of l, and its code points.
func told(l []element) (ids []api.Id, text string) {
	for _, x := range l {
		ids = append(ids, x.name)
		text += x.point
	}
	return ids, text
}

// seenOf are those of l that are to be seen.
func seenOf(l []element, on []api.Stamp, gone []api.Id) []element {
	return slices.DeleteFunc(slices.Clone(l), func(x element) bool {
		return !slices.Contains(on, x.name.Stamp) || slices.Contains(gone, x.name)
	})
}

// stampsOf are the stamps of l's names, each once, in their order.
func stampsOf(l []element) []api.Stamp {
	var all []api.Stamp
	for _, x := range l {
		all = append(all, x.name.Stamp)
	}
	slices.SortFunc(all, func(a, b api.Stamp) int { return cmp.Or(cmp.Compare(a.T, b.T), cmp.Compare(a.R, b.R)) })
	return slices.Compact(all)
}

// short is what stands in a list or a text, cut.
func short(x any) string {
	s := fmt.Sprintf("%+q", fmt.Sprint(x))
	return s[:min(len(s), 400)]
}

func checkOrder(t *testing.T, l []api.Run, ids []api.Id, text string) {
	t.Helper()
	if got, s := weave.Order(l); !slices.Equal(got, ids) || s != text {
		t.Errorf("I1: Order(%s): %s %s, not %s %s", short(l), short(got), short(s), short(ids), short(text))
	}
}

func checkSeen(t *testing.T, l []api.Run, on []api.Stamp, gone []api.Id, ids []api.Id, text string) {
	t.Helper()
	if got, s := weave.Seen(l, on, gone); !slices.Equal(got, ids) || s != text {
		t.Errorf("I2: Seen(%s, %v, %v): %s %s, not %s %s", short(l), on, gone, short(got), short(s), short(ids), short(text))
	}
}

// check holds both calls against what is reckoned: Seen with nothing on, with all, with all and one of each two names gone, and with one of each two stamps on.
func check(t *testing.T, l []api.Run) {
	t.Helper()
	order := ordered(l)
	ids, text := told(order)
	checkOrder(t, l, ids, text)
	all := stampsOf(elementsOf(l))
	var half []api.Stamp
	for i, s := range all {
		if i%2 == 0 {
			half = append(half, s)
		}
	}
	var gone []api.Id
	for i, x := range ids {
		if i%2 == 0 {
			gone = append(gone, x)
		}
	}
	checkSeen(t, l, nil, nil, nil, "")
	checkSeen(t, l, all, nil, ids, text)
	checkSeen(t, l, all, ids, nil, "")
	for _, on := range [][]api.Stamp{all, half} {
		some, s := told(seenOf(order, on, gone))
		checkSeen(t, l, on, gone, some, s)
	}
	if t.Failed() { // one list tells enough
		t.FailNow()
	}
}

// ordersOf calls f with l in each order.
func ordersOf(l []api.Run, f func(l []api.Run)) {
	var from func(n int)
	from = func(n int) {
		if n == len(l) {
			f(slices.Clone(l))
		}
		for i := n; i < len(l); i++ {
			l[n], l[i] = l[i], l[n]
			from(n + 1)
			l[n], l[i] = l[i], l[n]
		}
	}
	from(0)
}

package wire

import (
	"recension/api"
	"recension/varint"
)

// reader takes numbers and texts from the head of what is left, and remembers whether something went wrong: what it took is then worth nothing.
type reader struct {
	left  string
	wrong bool
}

// hold remembers that something went wrong, if ok does not hold.
func (r *reader) hold(ok bool) {
	r.wrong = r.wrong || !ok
}

func (r *reader) nat() int { return takeOne(r, varint.Take) }

func (r *reader) nats() []int { return takeOne(r, varint.TakeNats) }

func (r *reader) text() string { return takeOne(r, varint.TakeBytes) }

// flag is whether 1 stands there; what is neither 1 nor 0 is wrong.
func (r *reader) flag() bool {
	n := r.nat()
	r.hold(n <= 1)
	return n == 1
}

func (r *reader) stamp() api.Stamp {
	return api.Stamp{T: r.nat(), R: r.nat()}
}

func (r *reader) id() api.Id {
	return api.Id{Stamp: r.stamp(), I: r.nat()}
}

func (r *reader) group() api.Group {
	return api.Group{Stamp: r.stamp(), N: r.nat(), Deps: r.nats(), Undo: r.stamp(), Ops: takeAll(r, api.MaxOps, r.op)}
}

// op is an operation. One of a kind that there is none of goes no further than its node; Check refuses it.
func (r *reader) op() api.Op {
	o := api.Op{Kind: r.nat(), Node: r.id()}
	dir := func() bool { return false } // Move has none
	switch o.Kind {
	case api.Make:
		dir = r.flag
		fallthrough
	case api.Move:
		o.Parent, o.Name, o.Dir = r.id(), r.text(), dir()
	case api.Drop:
		o.Dots = takeAll(r, api.MaxDots, r.stamp)
	case api.Insert:
		o.After, o.Elem, o.Text = r.id(), r.id(), r.text()
	case api.Erase:
		o.Elems = takeAll(r, api.MaxText, r.id)
	}
	return o
}

// takeOne is what take takes from the head of what is left.
func takeOne[T any](r *reader, take func(s string) (T, string, api.Errno)) T {
	x, rest, e := take(r.left)
	r.left = rest
	r.hold(e == api.OK)
	return x
}

// takeAll is as many as the number ahead of them tells, each taken by take. More than most are wrong anyway: no room is made for them.
func takeAll[T any](r *reader, most int, take func() T) []T {
	n := r.nat()
	r.hold(n <= most)
	var l []T
	for i := 0; i < n && !r.wrong; i++ {
		l = append(l, take())
	}
	return l
}

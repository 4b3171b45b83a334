package wire

import (
	"recension/api"
	"recension/pathname"
	"recension/points"
	"recension/stamp"
)

// mayBe tells whether g may be a group.
func mayBe(g api.Group) bool {
	if !stamp.Right(g.Stamp) || g.N < 1 || g.N > api.MaxClock {
		return false
	}
	if !stamp.Vector(g.Deps) || stamp.At(g.Deps, g.R) != g.N-1 {
		return false
	}
	if g.Undo == (api.Stamp{}) {
		return opsMayBe(g)
	}
	return stamp.Right(g.Undo) && stamp.Cmp(g.Undo, g.Stamp) < 0 && len(g.Ops) == 0
}

// opsMayBe tells whether g has as many operations as may be, all of which may be.
func opsMayBe(g api.Group) bool {
	if len(g.Ops) < 1 || len(g.Ops) > api.MaxOps {
		return false
	}
	next := api.Id{Stamp: g.Stamp}
	for _, o := range g.Ops {
		n, ok := born(o, next)
		if !ok || more(o) {
			return false
		}
		next.I += n
	}
	return true
}

// born is how many ids come to be in o, and whether what its kind has may be where the group's next own id is next.
func born(o api.Op, next api.Id) (int, bool) {
	switch o.Kind {
	case api.Make:
		return 1, o.Node == next && aheadOrNone(o.Parent, next) && pathname.Name(o.Name)
	case api.Move:
		return 0, ahead(o.Node, next) && aheadOrNone(o.Parent, next) && pathname.Name(o.Name)
	case api.Drop:
		return 0, ahead(o.Node, next) && dotsMayBe(o.Dots, next.Stamp)
	case api.Insert:
		n, e := points.Len(o.Text)
		return n, e == api.OK && n >= 1 && n <= api.MaxText && ahead(o.Node, next) && aheadOrNone(o.After, next) && o.Elem == next
	case api.Erase:
		return 0, ahead(o.Node, next) && elemsMayBe(o.Elems, next)
	}
	return 0, false
}

// more tells whether o has something that its kind has not.
func more(o api.Op) bool {
	switch o.Kind { // o is a copy: what its kind has is taken from it
	case api.Make:
		o.Dir = false
		fallthrough
	case api.Move:
		o.Parent, o.Name = api.Id{}, ""
	case api.Drop:
		o.Dots = nil
	case api.Insert:
		o.After, o.Elem, o.Text = api.Id{}, api.Id{}, ""
	case api.Erase:
		o.Elems = nil
	}
	none := api.Id{}
	return o.Parent != none || o.Name != "" || o.Dir || len(o.Dots) > 0 || o.After != none || o.Elem != none || o.Text != "" || len(o.Elems) > 0
}

// ahead tells whether x is ahead where the group's next own id is next: the group's ids that came to be have a smaller I, and those of a group behind it are behind them all.
func ahead(x, next api.Id) bool {
	return stamp.RightId(x) && stamp.CmpId(x, next) < 0
}

// aheadOrNone tells whether x is ahead, or the empty one.
func aheadOrNone(x, next api.Id) bool {
	return x == (api.Id{}) || ahead(x, next)
}

// dotsMayBe tells whether l may be the dots of an operation of the group s.
func dotsMayBe(l []api.Stamp, s api.Stamp) bool {
	may := func(d api.Stamp) bool { return stamp.Right(d) && stamp.Cmp(d, s) <= 0 }
	return len(l) <= api.MaxDots && rising(l, stamp.Cmp, may)
}

// elemsMayBe tells whether l may be the elements of an erasing where the group's next own id is next.
func elemsMayBe(l []api.Id, next api.Id) bool {
	may := func(x api.Id) bool { return ahead(x, next) }
	return len(l) >= 1 && len(l) <= api.MaxText && rising(l, stamp.CmpId, may)
}

// rising tells whether each of l may be, and is behind the one ahead of it.
func rising[T any](l []T, order func(a, b T) int, may func(x T) bool) bool {
	for i, x := range l {
		if !may(x) || i > 0 && order(l[i-1], x) >= 0 {
			return false
		}
	}
	return true
}

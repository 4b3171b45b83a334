package wire

import (
	"recension/api"
	"recension/varint"
)

// row is numbers and texts as bytes, one behind the other.
type row struct{ bytes []byte }

// parcel is a group, and what groups are made of, as bytes.
type parcel struct{ row }

// nat puts n behind the others. No number of a group that may be is below 0, so that there is no error; nor is there one in nats.
func (w *row) nat(n int) {
	s, _ := varint.Nat(n)
	w.bytes = append(w.bytes, s...)
}

// nats puts the numbers of l behind how many they are.
func (w *row) nats(l []int) {
	s, _ := varint.Nats(l)
	w.bytes = append(w.bytes, s...)
}

// text puts t behind its length.
func (w *row) text(t string) {
	w.bytes = append(w.bytes, varint.Bytes(t)...)
}

// flag puts 1, if b holds, else 0.
func (w *row) flag(b bool) {
	n := 0
	if b {
		n = 1
	}
	w.nat(n)
}

func (p *parcel) stamp(s api.Stamp) {
	p.nat(s.T)
	p.nat(s.R)
}

func (p *parcel) id(x api.Id) {
	p.stamp(x.Stamp)
	p.nat(x.I)
}

func (p *parcel) group(g api.Group) {
	p.stamp(g.Stamp)
	p.nat(g.N)
	p.nats(g.Deps)
	p.stamp(g.Undo)
	putAll(p, g.Ops, p.op)
}

func (p *parcel) op(o api.Op) {
	p.nat(o.Kind)
	p.id(o.Node)
	var dir row // stands behind what Make and Move both have; Move has none
	switch o.Kind {
	case api.Make:
		dir.flag(o.Dir)
		fallthrough
	case api.Move:
		p.id(o.Parent)
		p.text(o.Name)
		p.bytes = append(p.bytes, dir.bytes...)
	case api.Drop:
		putAll(p, o.Dots, p.stamp)
	case api.Insert:
		p.id(o.After)
		p.id(o.Elem)
		p.text(o.Text)
	case api.Erase:
		putAll(p, o.Elems, p.id)
	}
}

// putAll puts all of l by put, behind how many they are.
func putAll[T any](p *parcel, l []T, put func(x T)) {
	p.nat(len(l))
	for _, x := range l {
		put(x)
	}
}

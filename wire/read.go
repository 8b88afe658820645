package wire

import (
	"math"

	"manciple/api"
	"manciple/shape"
	"manciple/slot"
	"manciple/vec"
)

// reader reads bytes, number by number.
type reader struct {
	next func() (uint64, bool) // the next number, and whether there is one
	used func() int            // how many bytes have been read
}

func read(b []byte) reader {
	at := 0
	return reader{
		next: func() (uint64, bool) {
			n, size, ok := Cut(b[at:])
			at += size
			return n, ok
		},
		used: func() int { return at },
	}
}

// number returns the next number; false if there is none, or it is above a greatest one.
func (r reader) number(most uint64) (int64, bool) {
	n, ok := r.next()
	if !ok || n > most {
		return 0, false
	}
	return int64(n), true
}

func (r reader) vec() ([]api.Part, bool) {
	long, ok := r.number(api.MaxParts)
	if !ok {
		return nil, false
	}
	var v []api.Part
	for range long {
		packed, known := r.number(math.MaxUint16)
		amount, ok := r.number(api.Top)
		s, right := slot.Unpack(uint16(packed))
		if !known || !ok || !right {
			return nil, false
		}
		v = append(v, api.Part{Kind: s.Kind, Role: s.Role, Amount: amount})
	}
	return v, vec.Right(v)
}

func (r reader) ids() ([]int64, bool) {
	long, ok := r.number(api.MaxNamed)
	var l []int64
	for range long {
		id, is := r.number(api.Top)
		l = append(l, id)
		ok = ok && is
	}
	return l, ok
}

func (r reader) ops() ([]api.Op, bool) {
	long, ok := r.number(api.MaxNamed)
	var l []api.Op
	for range long {
		o, is := r.op()
		l = append(l, o)
		ok = ok && is
	}
	return l, ok
}

func (r reader) op() (api.Op, bool) {
	kind, ok := r.number(api.Unreserve)
	o := api.Op{Kind: int(kind)}
	named := true
	if kind == api.Launch {
		o.ID, named = r.number(api.Top)
	}
	v, is := r.vec()
	o.Vec = v
	return o, ok && named && is
}

// call returns a call of whatever form with the fields that its kind uses.
func (r reader) call() (api.Call, bool) {
	kind, ok := r.number(api.All)
	c := api.Call{Kind: int(kind)}
	for f := range fields {
		if ok && shape.Has(c.Kind, f) {
			ok = r.field(&c, f)
		}
	}
	return c, ok
}

// field reads a field of a call.
func (r reader) field(c *api.Call, f shape.Field) bool {
	ok := false
	switch f {
	case shape.Frame:
		c.Frame, ok = r.number(api.Top)
	case shape.Agent:
		c.Agent, ok = r.number(api.Top)
	case shape.ID:
		c.ID, ok = r.number(api.Top)
	case shape.Role:
		role, is := r.number(api.MaxRole)
		c.Role, ok = int(role), is
	case shape.Weight:
		c.Weight, ok = r.number(api.MaxWeight)
	case shape.Time:
		c.Time, ok = r.number(api.Top)
	case shape.IDs:
		c.IDs, ok = r.ids()
	case shape.Vec:
		c.Vec, ok = r.vec()
	case shape.Ops:
		c.Ops, ok = r.ops()
	}
	return ok
}

// Package samples makes calls and configurations for the tests of other packages, always the same ones.
package samples

import (
	"manciple/api"
	"manciple/vec"
)

// Source is a source of numbers that look arbitrary.
type Source uint64

// Below returns a number from 0 to below n.
func (s *Source) Below(n int) int {
	*s = *s*6364136223846793005 + 1442695040888963407
	return int(uint64(*s) >> 33 % uint64(n))
}

func (s *Source) id(n int) int64 { return int64(1 + s.Below(n)) }

// Vec returns a valid vector with at least one part, of small amounts and of the roles 0 to 3.
func (s *Source) Vec() []api.Part {
	var l []api.Part
	for range 1 + s.Below(4) {
		l = append(l, api.Part{Kind: s.Below(2), Role: max(0, s.Below(6)-2), Amount: s.id(9)})
	}
	v, _ := vec.Of(l)
	return v
}

// some returns a vector with at least one part, most of which v has.
func (s *Source) some(v []api.Part) []api.Part {
	var l []api.Part
	for _, p := range v {
		if s.Below(2) == 0 {
			p.Amount = min(p.Amount, s.id(4))
			l = append(l, p)
		}
	}
	if len(l) == 0 || s.Below(20) == 0 {
		return s.Vec()
	}
	return l
}

// Config returns a valid configuration with narrow limits.
func (s *Source) Config() api.Config {
	return api.Config{
		Horizon: int64(20 + s.Below(200)),
		Most:    int64(20 + s.Below(90)),
		IDs:     int64(30 + s.Below(300)),
		Life:    int64(max(0, s.Below(8)-3)),
		Cap:     3 + s.Below(6),
		Min:     [api.Kinds]int64{int64(max(0, s.Below(4)-2)), int64(max(0, s.Below(4)-2))},
	}
}

// Call returns a call of any kind, many of which can be executed on the book.
func (s *Source) Call(b api.Book) api.Call {
	c := api.Call{Kind: s.kind(), Frame: s.id(5), Agent: s.id(4), ID: s.id(9), Role: 1 + s.Below(3), Time: int64(s.Below(4)), Vec: s.Vec(), IDs: []int64{s.id(50)}}
	c.Weight = int64(c.Role)
	for _, f := range b.Frames {
		if f.ID == c.Frame && s.Below(8) > 0 {
			c.Role, c.Weight = f.Role, f.Weight
		}
	}
	if len(b.Offers) > 0 {
		s.answer(&c, b)
	}
	if len(b.Tasks) > 0 && s.Below(3) == 0 {
		x := b.Tasks[s.Below(len(b.Tasks))]
		c.Frame, c.ID = x.Frame, x.ID
	}
	if s.Below(40) == 0 {
		s.spoil(&c)
	}
	return c
}

// kind returns a kind of calls. What makes an end of much is rare, so that there is much to begin with.
func (s *Source) kind() int {
	kind := 1 + s.Below(api.All)
	switch kind {
	case api.Lose, api.Teardown, api.Disconnect, api.Rescind, api.Suppress, api.Kill, api.Finish:
		if s.Below(4) > 0 {
			return api.Accept
		}
	case api.Tick:
		return []int{api.Tick, api.Allocate, api.All}[s.Below(3)]
	}
	return kind
}

// answer lets a call name offers of the book.
func (s *Source) answer(c *api.Call, b api.Book) {
	o := b.Offers[s.Below(len(b.Offers))]
	if c.Kind == api.Rescind {
		c.ID = o.ID
	}
	if c.Kind != api.Accept && c.Kind != api.Decline {
		return
	}
	c.Frame = o.Frame
	c.IDs = []int64{o.ID}
	for _, other := range b.Offers {
		alike := other.Frame == o.Frame && other.Agent == o.Agent
		if other.ID != o.ID && (alike || s.Below(40) == 0) {
			c.IDs = append(c.IDs, other.ID)
		}
	}
	for range s.Below(4) {
		c.Ops = append(c.Ops, s.op(o.Vec))
	}
}

// op returns an operation on something like what v has.
func (s *Source) op(v []api.Part) api.Op {
	o := api.Op{Kind: 1 + s.Below(3), ID: s.id(12), Vec: s.some(v)}
	free := vec.Only(o.Vec, 0)
	rest, _ := vec.Sub(o.Vec, free)
	switch {
	case o.Kind == api.Reserve && len(free) > 0:
		o.Vec = free
	case o.Kind == api.Unreserve && len(rest) > 0:
		o.Vec = rest
	default:
		o.Kind = api.Launch
	}
	return o
}

// spoil lets some field have a value that is not valid or not usual.
func (s *Source) spoil(c *api.Call) {
	switch s.Below(8) {
	case 0:
		c.Kind = s.Below(20) - 2
	case 1:
		c.Frame = int64(s.Below(2)) - 1
	case 2:
		c.Agent = api.Top + int64(s.Below(2))
	case 3:
		c.Role = 33 * s.Below(2)
	case 4:
		c.Weight = int64(s.Below(1003))
	case 5:
		c.Time = int64(s.Below(300)) - 1
	case 6:
		c.Vec = []api.Part{{Amount: int64(s.Below(2)) - 1}}
	case 7:
		c.IDs = []int64{s.id(3), s.id(3), s.id(3)}
	}
}

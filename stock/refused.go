package stock

import (
	"slices"

	"manciple/api"
	"manciple/pool"
	"manciple/shape"
	"manciple/sums"
	"manciple/vec"
)

// facts is what the tables have of what a call names.
type facts struct {
	frame          api.Frame
	agent          api.Agent
	offers         []api.Offer
	framed, hosted bool // whether the framework and the agent exist
	missing        bool // whether one of the offers does not exist
	runs           bool // whether the task exists
}

// reasons is a list to which those reasons are added that apply.
type reasons []api.Errno

func (l *reasons) add(e api.Errno, applies bool) {
	if applies {
		*l = append(*l, e)
	}
}

// Refused returns all reasons to reject the call that are of the first class of which one applies, in ascending order.
func (s *Stock) Refused(c api.Call) []api.Errno {
	if !s.made() {
		return nil
	}
	l := reasons(shape.Check(c))
	if len(l) > 0 {
		return l
	}
	f := s.facts(c)
	if l = existence(c.Kind, f); len(l) == 0 {
		l = s.standing(c, f)
	}
	if len(l) == 0 {
		l = s.quantity(c, f)
	}
	slices.Sort(l)
	return l
}

func (s *Stock) facts(c api.Call) facts {
	var f facts
	f.frame, f.framed = s.frames.Get(c.Frame)
	f.agent, f.hosted = s.agents.Get(c.Agent)
	_, f.runs = s.tasks.Get(c.Frame, c.ID)
	for _, id := range named(c) {
		o, ok := s.offers.Get(id)
		f.offers = append(f.offers, o)
		f.missing = f.missing || !ok
	}
	return f
}

// named returns the numbers of the offers that the call names.
func named(c api.Call) []int64 {
	switch c.Kind {
	case api.Accept, api.Decline:
		return c.IDs
	case api.Rescind:
		return []int64{c.ID}
	}
	return nil
}

func existence(kind int, f facts) reasons {
	var l reasons
	switch kind {
	case api.Kill, api.Finish:
		l.add(api.ErrTask, !f.runs)
		fallthrough
	case api.Disconnect, api.Teardown, api.Revive, api.Suppress:
		l.add(api.ErrFrame, !f.framed)
	case api.Accept, api.Decline:
		l.add(api.ErrFrame, !f.framed)
		fallthrough
	case api.Rescind:
		l.add(api.ErrOffer, f.missing)
	case api.Lose, api.Allocate:
		l.add(api.ErrAgent, !f.hosted)
	}
	return l
}

func (s *Stock) standing(c api.Call, f facts) reasons {
	var l reasons
	switch c.Kind {
	case api.Register:
		l.add(api.ErrTotals, f.hosted && !vec.Same(f.agent.Total, c.Vec))
	case api.Subscribe:
		weight, ok := s.frames.Weight(c.Role)
		l.add(api.ErrRole, f.framed && f.frame.Role != c.Role)
		l.add(api.ErrWeight, ok && weight != c.Weight)
	case api.Accept:
		l.add(api.ErrSpan, slices.ContainsFunc(f.offers, func(o api.Offer) bool { return o.Agent != f.offers[0].Agent }))
		l.add(api.ErrLive, slices.ContainsFunc(c.Ops, func(o api.Op) bool { return s.live(c.Frame, o) }))
		l.add(api.ErrForeign, pool.Foreign(f.frame.Role, c.Ops))
		fallthrough
	case api.Decline:
		l.add(api.ErrOwner, slices.ContainsFunc(f.offers, func(o api.Offer) bool { return o.Frame != c.Frame }))
		fallthrough
	case api.Disconnect, api.Revive, api.Suppress, api.Kill:
		l.add(api.ErrGone, !f.frame.Up)
	}
	return l
}

// live reports whether an operation launches a task with the ID of one that runs.
func (s *Stock) live(frame int64, o api.Op) bool {
	_, runs := s.tasks.Get(frame, o.ID)
	return runs && o.Kind == api.Launch
}

func (s *Stock) quantity(c api.Call, f facts) reasons {
	var l reasons
	room := s.config.Cap - s.filters.Long()
	switch c.Kind {
	case api.Register:
		l.add(api.ErrMost, !f.hosted && s.excessive(c.Vec))
		l.add(api.ErrCap, !f.hosted && s.hosts >= s.config.Cap)
	case api.Subscribe:
		l.add(api.ErrCap, !f.framed && s.frames.Long() >= s.config.Cap)
	case api.Accept:
		left, err := pool.Run(together(f.offers), f.frame.Role, c.Ops)
		kept := c.Time > 0 && len(left) > 0
		l.add(api.ErrShort, err == api.ErrShort)
		l.add(api.ErrCap, s.tasks.Long()+pool.Tasks(c.Ops) > s.config.Cap || kept && room < 1)
	case api.Decline:
		l.add(api.ErrCap, c.Time > 0 && len(c.IDs) > room)
	case api.Tick:
		l.add(api.ErrHorizon, s.now+c.Time > s.config.Horizon)
	case api.Allocate:
		l.add(api.ErrIDs, s.exhausted(1))
	case api.All:
		l.add(api.ErrIDs, s.exhausted(s.hosts))
	}
	return l
}

// together returns the sum of what some offers have.
func together(l []api.Offer) []api.Part {
	var sum []api.Part
	for _, o := range l {
		sum, _ = vec.Add(sum, o.Vec)
	}
	return sum
}

// excessive reports whether all agents together with v would have more than Most of a kind.
func (s *Stock) excessive(v []api.Part) bool {
	most := s.config.Most
	sum, ok := s.agents.Sum().Add(sums.Of(v))
	return !ok || !sums.Sums{most, most, most, most}.Holds(sum)
}

// exhausted reports whether there might not be numbers enough for the offers of so many agents.
func (s *Stock) exhausted(hosts int) bool {
	needed := len(s.frames.Roles()) + 1
	return s.offers.Last()+int64(needed*hosts) > s.config.IDs
}

package stock

import (
	"slices"

	"manciple/alarm"
	"manciple/api"
	"manciple/pool"
	"manciple/sums"
	"manciple/vec"
)

// Do executes a call and returns the events and true; nothing and false if there is a reason to reject it, or it makes offers.
func (s *Stock) Do(c api.Call) ([]api.Event, bool) {
	if !s.made() || len(s.Refused(c)) > 0 {
		return nil, false
	}
	do, ok := s.effects()[c.Kind]
	if !ok {
		return nil, false
	}
	return do(c), true
}

// effects returns what each kind of calls does.
func (s *Stock) effects() map[int]func(c api.Call) []api.Event {
	return map[int]func(c api.Call) []api.Event{
		api.Register:   s.register,
		api.Lose:       s.lose,
		api.Subscribe:  s.subscribe,
		api.Disconnect: s.disconnect,
		api.Teardown:   s.teardown,
		api.Accept:     s.accept,
		api.Decline:    s.decline,
		api.Rescind:    s.rescind,
		api.Revive:     s.want,
		api.Suppress:   s.want,
		api.Kill:       s.end,
		api.Finish:     s.end,
		api.Tick:       s.tick,
	}
}

func one(e api.Event) []api.Event { return []api.Event{e} }

func offerKey(id int64) alarm.Key { return alarm.Key{What: offerDue, A: id} }

func frameKey(id int64) alarm.Key { return alarm.Key{What: frameDue, A: id} }

// closeOffers closes offers by events of a kind.
func (s *Stock) closeOffers(kind int, ids []int64) []api.Event {
	var l []api.Event
	for _, id := range ids {
		o, _ := s.offers.Close(id)
		s.alarms.Drop(offerKey(id))
		s.agents.Give(o.Agent, o.Vec)
		s.tiers.Take(o.Frame, sums.Of(o.Vec))
		l = append(l, api.Event{Kind: kind, Frame: o.Frame, ID: id, Agent: o.Agent, Vec: o.Vec})
	}
	return l
}

// endTasks ends tasks by events of a kind.
func (s *Stock) endTasks(kind int, some []api.Task) []api.Event {
	var l []api.Event
	for _, x := range some {
		s.tasks.End(x.Frame, x.ID)
		s.agents.Give(x.Agent, x.Vec)
		s.tiers.Take(x.Frame, sums.Of(x.Vec))
		l = append(l, api.Event{Kind: kind, Frame: x.Frame, ID: x.ID, Agent: x.Agent, Vec: x.Vec})
	}
	return l
}

func (s *Stock) register(c api.Call) []api.Event {
	if added, _ := s.agents.Register(c.Agent, c.Vec); !added {
		return nil
	}
	s.hosts++
	s.tiers.Total(s.agents.Sum())
	return one(api.Event{Kind: api.EvRegistered, Agent: c.Agent, Vec: vec.Copy(c.Vec)})
}

func (s *Stock) lose(c api.Call) []api.Event {
	l := s.closeOffers(api.EvLost, s.offers.On(c.Agent))
	l = append(l, s.endTasks(api.EvTaskLost, s.tasks.On(c.Agent))...)
	s.filters.Lose(c.Agent)
	s.agents.Lose(c.Agent)
	s.hosts--
	s.tiers.Total(s.agents.Sum())
	return append(l, api.Event{Kind: api.EvLeft, Agent: c.Agent})
}

func (s *Stock) subscribe(c api.Call) []api.Event {
	if added, _ := s.frames.Subscribe(c.Frame, c.Role, c.Weight, c.Time); added {
		s.tiers.Put(c.Frame, c.Role, c.Weight)
	}
	f, _ := s.frames.Get(c.Frame)
	s.tiers.Wake(c.Frame, !f.Quiet)
	s.alarms.Drop(frameKey(c.Frame))
	return one(api.Event{Kind: api.EvSubscribed, Frame: c.Frame})
}

func (s *Stock) disconnect(c api.Call) []api.Event {
	l := s.closeOffers(api.EvRescinded, s.offers.Of(c.Frame))
	s.frames.Disconnect(c.Frame, s.now)
	f, _ := s.frames.Get(c.Frame)
	s.tiers.Wake(c.Frame, false)
	s.alarms.Set(frameKey(c.Frame), f.Until)
	return append(l, api.Event{Kind: api.EvDisconnected, Frame: c.Frame})
}

func (s *Stock) teardown(c api.Call) []api.Event { return s.remove(c.Frame) }

// remove removes a framework with all that it has.
func (s *Stock) remove(frame int64) []api.Event {
	l := s.closeOffers(api.EvDropped, s.offers.Of(frame))
	l = append(l, s.endTasks(api.EvTaskDropped, s.tasks.Of(frame))...)
	s.filters.Forget(frame)
	s.frames.Drop(frame)
	s.tiers.Drop(frame)
	s.alarms.Drop(frameKey(frame))
	return append(l, api.Event{Kind: api.EvGone, Frame: frame})
}

func (s *Stock) accept(c api.Call) []api.Event {
	f := s.facts(c)
	agent := f.offers[0].Agent
	offered := together(f.offers)
	left, _ := pool.Run(offered, f.frame.Role, c.Ops)
	l := s.closeOffers(api.EvAccepted, ascending(c.IDs))
	a, _ := s.agents.Get(agent)
	total, _ := pool.Moved(a.Total, f.frame.Role, c.Ops)
	s.agents.Take(agent, offered)
	s.agents.Turn(agent, total, left)
	for _, o := range c.Ops {
		if o.Kind == api.Launch {
			s.tasks.Launch(api.Task{Frame: c.Frame, ID: o.ID, Agent: agent, Vec: o.Vec})
			s.tiers.Give(c.Frame, sums.Of(o.Vec))
		}
	}
	if c.Time > 0 && len(left) > 0 {
		s.filters.Put(api.Filter{Frame: c.Frame, Agent: agent, Until: s.now + c.Time, Vec: left})
	}
	return append(l, pool.Events(c.Frame, agent, c.Ops)...)
}

func ascending(ids []int64) []int64 {
	l := slices.Clone(ids)
	slices.Sort(l)
	return l
}

func (s *Stock) decline(c api.Call) []api.Event {
	l := s.closeOffers(api.EvDeclined, ascending(c.IDs))
	for _, e := range l {
		if c.Time > 0 {
			s.filters.Put(api.Filter{Frame: c.Frame, Agent: e.Agent, Until: s.now + c.Time, Vec: e.Vec})
		}
	}
	return l
}

func (s *Stock) rescind(c api.Call) []api.Event {
	return s.closeOffers(api.EvRescinded, []int64{c.ID})
}

// want lets a framework want offers, or not.
func (s *Stock) want(c api.Call) []api.Event {
	switch c.Kind {
	case api.Revive:
		s.filters.Forget(c.Frame)
		fallthrough
	case api.Suppress:
		quiet := c.Kind == api.Suppress
		s.frames.Quiet(c.Frame, quiet)
		s.tiers.Wake(c.Frame, !quiet)
	}
	return nil
}

// end ends the task of a Kill or a Finish.
func (s *Stock) end(c api.Call) []api.Event {
	kind := api.EvKilled
	if c.Kind == api.Finish {
		kind = api.EvFinished
	}
	x, _ := s.tasks.Get(c.Frame, c.ID)
	return s.endTasks(kind, []api.Task{x})
}

func (s *Stock) tick(c api.Call) []api.Event {
	s.now += c.Time
	var l []api.Event
	for _, k := range s.alarms.Due(s.now) {
		if k.What == offerDue {
			l = append(l, s.closeOffers(api.EvExpired, []int64{k.A})...)
		} else {
			l = append(l, s.remove(k.A)...)
		}
	}
	s.filters.Expire(s.now)
	return l
}

package stock

import (
	"manciple/api"
	"manciple/sums"
	"manciple/vec"
)

// Offer makes offers of an agent, as long as there is a candidate and numbers are left, and returns all events.
func (s *Stock) Offer(agent int64) []api.Event {
	if !s.made() {
		return nil
	}
	var l []api.Event
	for s.offers.Last() < s.config.IDs {
		frame, v, ok := s.candidate(agent)
		if !ok {
			break
		}
		l = append(l, s.issue(frame, agent, v))
	}
	return l
}

// issue makes an offer of what is free at an agent.
func (s *Stock) issue(frame, agent int64, v []api.Part) api.Event {
	until := int64(0)
	if s.config.Life > 0 {
		until = s.now + s.config.Life
	}
	id, _ := s.offers.Issue(frame, agent, v, until)
	if until > 0 {
		s.alarms.Set(offerKey(id), until)
	}
	s.agents.Take(agent, v)
	s.tiers.Give(frame, sums.Of(v))
	return api.Event{Kind: api.EvOffered, Frame: frame, ID: id, Agent: agent, Vec: v}
}

// candidate returns a next candidate of an agent, what it may have, and true.
func (s *Stock) candidate(agent int64) (int64, []api.Part, bool) {
	a, ok := s.agents.Get(agent)
	if !ok {
		return 0, nil, false
	}
	for pass := 1; pass <= 2; pass++ {
		views, some := s.views(a.Free, pass)
		if !some {
			continue
		}
		// The tiers walk through all that want offers, the least share first.
		for role, frame := range s.tiers.Walk() {
			if v := views[role]; len(v) > 0 && !s.filters.Blocks(frame, agent, v) {
				return frame, v, true
			}
		}
	}
	return 0, nil, false
}

// views returns what each role may have in a pass, if that is large enough, and whether one may have something.
func (s *Stock) views(free []api.Part, pass int) ([api.MaxRole + 1][]api.Part, bool) {
	var views [api.MaxRole + 1][]api.Part
	some := false
	for _, role := range s.frames.Roles() {
		roles := []int{role, 0}[:pass]
		v := vec.Only(free, roles...)
		if len(v) > 0 && sums.Of(v).Holds(s.config.Min) {
			views[role] = v
			some = true
		}
	}
	return views, some
}

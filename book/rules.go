package book

import (
	"cmp"
	"slices"

	"manciple/api"
	"manciple/conf"
	"manciple/sums"
	"manciple/vec"
)

// latest is the greatest time until which something can last.
const latest = 2 * api.Top

// ruled is a book whose rules are checked one after the other: each rule may rely on those before it.
type ruled struct {
	b      api.Book
	frames map[int64]api.Frame
	agents map[int64]struct{}
}

// Right returns 0 and true if b is valid; otherwise the number of the first rule that does not hold, and false.
func Right(b api.Book) (int, bool) {
	r := ruled{b, make(map[int64]api.Frame), make(map[int64]struct{})}
	rules := [8]func() bool{r.heads, r.frameworks, r.machines, r.most, r.offers, r.tasks, r.filters, r.ledger}
	for i := range len(rules) {
		if !rules[i]() {
			return i + 1, false
		}
	}
	return 0, true
}

func within(n, least, most int64) bool { return n >= least && n <= most }

// heads is rule 1.
func (r ruled) heads() bool {
	c := r.b.Config
	return conf.Check(c) == api.OK && within(r.b.Now, 0, c.Horizon) && within(r.b.Last, 0, c.IDs)
}

// frameworks is rule 2.
func (r ruled) frameworks() bool {
	var weights [api.MaxRole + 1]int64
	last := int64(0)
	for _, f := range r.b.Frames {
		if !within(f.ID, last+1, api.Top) || !frameRight(f) {
			return false
		}
		if weights[f.Role] != 0 && weights[f.Role] != f.Weight {
			return false
		}
		weights[f.Role] = f.Weight
		last = f.ID
		r.frames[f.ID] = f
	}
	return len(r.b.Frames) <= r.b.Config.Cap
}

func frameRight(f api.Frame) bool {
	if !within(int64(f.Role), 1, api.MaxRole) || !within(f.Weight, 1, api.MaxWeight) || !within(f.Time, 0, api.Top) {
		return false
	}
	if f.Up {
		return f.Until == 0
	}
	return within(f.Until, 0, latest)
}

// machines is rule 3.
func (r ruled) machines() bool {
	last := int64(0)
	for _, a := range r.b.Agents {
		if !within(a.ID, last+1, api.Top) || !some(a.Total) || !vec.Right(a.Free) {
			return false
		}
		last = a.ID
		r.agents[a.ID] = struct{}{}
	}
	return len(r.b.Agents) <= r.b.Config.Cap
}

// some reports whether v is a valid vector with at least one part.
func some(v []api.Part) bool { return len(v) > 0 && vec.Right(v) }

// most is rule 4.
func (r ruled) most() bool {
	n := r.b.Config.Most
	limit := sums.Sums{n, n, n, n}
	total := sums.Sums{}
	for _, a := range r.b.Agents {
		sum, ok := total.Add(sums.Of(a.Total))
		if !ok || !limit.Holds(sum) {
			return false
		}
		total = sum
	}
	return true
}

// offers is rule 5.
func (r ruled) offers() bool {
	last := int64(0)
	for _, o := range r.b.Offers {
		if !within(o.ID, last+1, r.b.Last) || !r.held(o.Frame, o.Agent, o.Vec) {
			return false
		}
		if !r.frames[o.Frame].Up || !r.lives(o.Until) {
			return false
		}
		last = o.ID
	}
	return true
}

func (r ruled) lives(until int64) bool {
	if r.b.Config.Life == 0 {
		return until == 0
	}
	return within(until, r.b.Now+1, r.b.Now+r.b.Config.Life)
}

// held reports whether v can be what the framework has of the agent.
func (r ruled) held(frame, agent int64, v []api.Part) bool {
	f, ok := r.frames[frame]
	if !ok || !r.has(agent) || !some(v) {
		return false
	}
	return !slices.ContainsFunc(v, func(p api.Part) bool { return p.Role != 0 && p.Role != f.Role })
}

func (r ruled) has(agent int64) bool {
	_, ok := r.agents[agent]
	return ok
}

// tasks is rule 6.
func (r ruled) tasks() bool {
	last := api.Task{}
	for i, x := range r.b.Tasks {
		order := cmp.Or(cmp.Compare(last.Frame, x.Frame), cmp.Compare(last.ID, x.ID))
		if i > 0 && order >= 0 || !within(x.ID, 1, api.Top) || !r.held(x.Frame, x.Agent, x.Vec) {
			return false
		}
		last = x
	}
	return len(r.b.Tasks) <= r.b.Config.Cap
}

// filters is rule 7.
func (r ruled) filters() bool {
	last := api.Filter{}
	for i, f := range r.b.Filters {
		order := cmp.Or(cmp.Compare(last.Frame, f.Frame), cmp.Compare(last.Agent, f.Agent), cmp.Compare(last.Until, f.Until), Order(last.Vec, f.Vec))
		if i > 0 && order >= 0 || !within(f.Until, r.b.Now+1, latest) {
			return false
		}
		if _, ok := r.frames[f.Frame]; !ok || !r.has(f.Agent) || !some(f.Vec) {
			return false
		}
		last = f
	}
	return len(r.b.Filters) <= r.b.Config.Cap
}

// ledger is rule 8.
func (r ruled) ledger() bool {
	used := make(map[int64][]api.Part)
	for _, o := range r.b.Offers {
		used[o.Agent] = append(used[o.Agent], o.Vec...)
	}
	for _, x := range r.b.Tasks {
		used[x.Agent] = append(used[x.Agent], x.Vec...)
	}
	for _, a := range r.b.Agents {
		all, ok := vec.Of(append(used[a.ID], a.Free...))
		if !ok || !vec.Same(all, a.Total) {
			return false
		}
	}
	return true
}

package machine

import (
	"slices"
	"testing"

	"manciple/api"
	"manciple/book"
	"manciple/conf"
	"manciple/reason"
	"manciple/samples"
	"manciple/vec"
)

func v(s string) []api.Part {
	l, ok := vec.Parse(s)
	if !ok {
		panic(s)
	}
	return l
}

func offered(frame, id, agent int64, s string) api.Event {
	return api.Event{Kind: api.EvOffered, Frame: frame, ID: id, Agent: agent, Vec: v(s)}
}

func right(t *testing.T, b api.Book) {
	t.Helper()
	if rule, ok := book.Right(b); !ok {
		t.Fatal("not valid", rule)
	}
}

// sample has two frameworks in the roles 2 and 3 each, none of which has anything.
func sample() api.Book {
	return api.Book{
		Config: api.Config{Horizon: 100, Most: 90000, IDs: 20, Cap: 10},
		Now:    5, Last: 3,
		Frames: []api.Frame{
			{ID: 1, Role: 2, Weight: 1, Up: true}, {ID: 2, Role: 3, Weight: 2, Up: true}, {ID: 3, Role: 2, Weight: 1, Up: true},
			{ID: 4, Role: 3, Weight: 2, Up: true},
		},
		Agents: []api.Agent{
			{ID: 1, Total: v("cpus:60"), Free: v("cpus:60")},
			{ID: 2, Total: v("mem:9,mem(2):1"), Free: v("mem:9,mem(2):1")},
			{ID: 3, Total: v("disk(9):3"), Free: v("disk(9):3")},
		},
	}
}

// step holds Step against what is wanted, and returns the book.
func step(t *testing.T, name string, b api.Book, c api.Call, r api.Reply, want bool) api.Book {
	t.Helper()
	right(t, b)
	before := book.Copy(b)
	got, ok := Step(b, c, r)
	if ok != want {
		t.Error(name, ok)
	}
	if !ok && !book.Same(got, api.Book{}) {
		t.Error(name, "a book without a reply")
	}
	if ok {
		right(t, got)
	}
	if !book.Same(b, before) {
		t.Error(name, "changed")
	}
	return got
}

// P21.1 and P21.4: rejected calls
func TestStepRejected(t *testing.T) {
	c := api.Call{Kind: api.Accept, Frame: 9, IDs: []int64{7}}
	for code := api.Errno(-1); code < 45; code++ {
		want := code == api.ErrFrame || code == api.ErrOffer
		got := step(t, "code", sample(), c, api.Reply{Code: code}, want)
		if want && !book.Same(got, sample()) {
			t.Error("the book changed")
		}
		step(t, "with events", sample(), c, api.Reply{Code: code, Events: []api.Event{{}}}, false)
	}
	step(t, "tick", sample(), api.Call{Kind: api.Tick, Time: 96}, api.Reply{Code: api.ErrHorizon}, true)
	step(t, "tick", sample(), api.Call{Kind: api.Tick, Time: 96}, api.Reply{}, false)
	step(t, "tick", sample(), api.Call{Kind: api.Tick, Time: 95}, api.Reply{Code: api.ErrHorizon}, false)
}

// P21.1: calls that make no offers
func TestStepDone(t *testing.T) {
	c := api.Call{Kind: api.Register, Agent: 9, Vec: v("cpus:1")}
	e := api.Event{Kind: api.EvRegistered, Agent: 9, Vec: v("cpus:1")}
	got := step(t, "register", sample(), c, api.Reply{Events: []api.Event{e}}, true)
	if len(got.Agents) != 4 {
		t.Error(got)
	}
	for name, change := range map[string]func(e *api.Event){
		"kind": func(e *api.Event) { e.Kind = api.EvLeft }, "frame": func(e *api.Event) { e.Frame = 1 }, "id": func(e *api.Event) { e.ID = 1 },
		"agent": func(e *api.Event) { e.Agent = 8 }, "vec": func(e *api.Event) { e.Vec = v("cpus:2") }, "no vec": func(e *api.Event) { e.Vec = nil },
	} {
		wrong := e
		change(&wrong)
		step(t, name, sample(), c, api.Reply{Events: []api.Event{wrong}}, false)
	}
	step(t, "no event", sample(), c, api.Reply{}, false)
	step(t, "twice", sample(), c, api.Reply{Events: []api.Event{e, e}}, false)
	step(t, "code", sample(), c, api.Reply{Code: api.ErrMost}, false)
	step(t, "code and event", sample(), c, api.Reply{Code: api.ErrNil, Events: []api.Event{e}}, false)
	step(t, "no events", sample(), api.Call{Kind: api.Tick, Time: 1}, api.Reply{Events: []api.Event{}}, true)
}

// P21.1: offers of one agent
func TestStepAllocate(t *testing.T) {
	c := api.Call{Kind: api.Allocate, Agent: 1}
	for frame := int64(1); frame <= 4; frame++ {
		got := step(t, "any candidate", sample(), c, api.Reply{Events: []api.Event{offered(frame, 4, 1, "cpus:60")}}, true)
		if len(got.Offers) != 1 || got.Offers[0].Frame != frame || got.Last != 4 {
			t.Error(got)
		}
	}
	for name, l := range map[string][]api.Event{
		"none": nil, "no candidate": {offered(5, 4, 1, "cpus:60")}, "number": {offered(1, 5, 1, "cpus:60")}, "part": {offered(1, 4, 1, "cpus:59")},
		"another agent": {offered(1, 4, 2, "mem(2):1")}, "too many": {offered(1, 4, 1, "cpus:60"), offered(2, 5, 1, "cpus:60")},
		"too many agents": {offered(1, 4, 1, "cpus:60"), offered(1, 5, 2, "mem(2):1")}, "kind": {{Kind: api.EvLaunched, Frame: 1, ID: 4, Agent: 1, Vec: v("cpus:60")}},
	} {
		step(t, name, sample(), c, api.Reply{Events: l}, false)
	}
	c.Agent = 2
	step(t, "two passes", sample(), c, api.Reply{Events: []api.Event{offered(3, 4, 2, "mem(2):1"), offered(2, 5, 2, "mem:9")}}, true)
	step(t, "not all", sample(), c, api.Reply{Events: []api.Event{offered(3, 4, 2, "mem(2):1")}}, false)
	step(t, "more", sample(), c, api.Reply{Events: []api.Event{offered(3, 4, 2, "mem(2):1"), offered(1, 5, 2, "mem:9")}}, false)
	c.Agent = 3
	step(t, "nothing", sample(), c, api.Reply{}, true)
	step(t, "code", sample(), c, api.Reply{Code: api.ErrIDs}, false)
}

// P21.1: offers of all agents, in any order
func TestStepAll(t *testing.T) {
	c := api.Call{Kind: api.All}
	one := []api.Event{offered(1, 4, 1, "cpus:60"), offered(3, 5, 2, "mem(2):1"), offered(2, 6, 2, "mem:9")}
	two := []api.Event{offered(1, 4, 2, "mem(2):1"), offered(4, 5, 2, "mem:9"), offered(3, 6, 1, "cpus:60")}
	right(t, step(t, "agent 1 first", sample(), c, api.Reply{Events: one}, true))
	right(t, step(t, "agent 2 first", sample(), c, api.Reply{Events: two}, true))
	between := []api.Event{offered(1, 4, 2, "mem(2):1"), offered(2, 5, 1, "cpus:60"), offered(3, 6, 2, "mem:9")}
	step(t, "agent 2 twice", sample(), c, api.Reply{Events: between}, false)
	step(t, "agent 1 left", sample(), c, api.Reply{Events: two[:2]}, false)
	step(t, "agent 2 left", sample(), c, api.Reply{Events: one[:1]}, false)
	step(t, "agent 2 not done", sample(), c, api.Reply{Events: one[:2]}, false)
	step(t, "nothing", sample(), c, api.Reply{}, false)
	step(t, "no such agent", sample(), c, api.Reply{Events: append(slices.Clone(one), offered(1, 7, 9, "cpus:1"))}, false)
	b := sample()
	b.Agents = b.Agents[2:]
	step(t, "nothing for anybody", b, c, api.Reply{}, true)
}

// P21.2
func TestPlays(t *testing.T) {
	calls := []api.Call{
		{Kind: api.Register, Agent: 1, Vec: v("cpus:4")}, {Kind: api.Subscribe, Frame: 1, Role: 2, Weight: 3}, {Kind: api.Allocate, Agent: 1}, {Kind: api.Rescind, ID: 7},
	}
	replies := []api.Reply{
		{Events: []api.Event{{Kind: api.EvRegistered, Agent: 1, Vec: v("cpus:4")}}}, {Events: []api.Event{{Kind: api.EvSubscribed, Frame: 1}}},
		{Events: []api.Event{offered(1, 1, 1, "cpus:4")}}, {Code: api.ErrOffer},
	}
	b, n, err := Plays(conf.Small(), calls, replies)
	if n != 4 || err != api.OK || len(b.Offers) != 1 || len(b.Agents) != 1 {
		t.Error(b, n, err)
	}
	right(t, b)
	if b, n, err := Plays(conf.Small(), calls, replies[:2]); n != 2 || err != api.OK || len(b.Frames) != 1 {
		t.Error(b, n, err)
	}
	if b, n, err := Plays(conf.Small(), calls[:1], replies); n != 1 || err != api.OK || len(b.Agents) != 1 {
		t.Error(b, n, err)
	}
	replies[2].Events = nil
	if b, n, err := Plays(conf.Small(), calls, replies); n != 2 || err != api.OK || len(b.Frames) != 1 || len(b.Offers) != 0 {
		t.Error(b, n, err)
	}
	start, _ := conf.Start(conf.Small())
	if b, n, err := Plays(conf.Small(), nil, nil); n != 0 || err != api.OK || !book.Same(b, start) {
		t.Error(b, n, err)
	}
	if b, n, err := Plays(api.Config{}, calls, replies); n != 0 || err != api.ErrArg || !book.Same(b, api.Book{}) {
		t.Error(b, n, err)
	}
}

// P21.3
func TestReply(t *testing.T) {
	b, r := Reply(sample(), api.Call{Kind: api.Accept, Frame: 9, IDs: []int64{7}})
	if r.Code != api.ErrFrame || len(r.Events) > 0 || !book.Same(b, sample()) {
		t.Error(b, r)
	}
	_, r = Reply(sample(), api.Call{Kind: api.All})
	want := []api.Event{offered(1, 4, 1, "cpus:60"), offered(3, 5, 2, "mem(2):1"), offered(2, 6, 2, "mem:9")}
	if r.Code != api.OK || !slices.EqualFunc(r.Events, want, same) {
		t.Error(r)
	}
	_, r = Reply(sample(), api.Call{Kind: api.Allocate, Agent: 2})
	if r.Code != api.OK || !slices.EqualFunc(r.Events, []api.Event{offered(1, 4, 2, "mem(2):1"), offered(2, 5, 2, "mem:9")}, same) {
		t.Error(r)
	}
	b, r = Reply(sample(), api.Call{Kind: api.Tick, Time: 3})
	if r.Code != api.OK || b.Now != 8 {
		t.Error(b, r)
	}
}

// P21.3 and P21.4, on many calls
func TestMany(t *testing.T) {
	for seed := range samples.Source(30) {
		s := seed
		b, _ := conf.Start(s.Config())
		for range 200 {
			c := s.Call(b)
			after, r := Reply(b, c)
			right(t, after)
			if (r.Code == api.OK) != (len(reason.First(b, c)) == 0) || r.Code != api.OK && !book.Same(b, after) {
				t.Fatal("Code", c, r)
			}
			got, ok := Step(b, c, r)
			if !ok || !book.Same(got, after) {
				t.Fatal("not admissible", c, r)
			}
			b = after
		}
	}
}

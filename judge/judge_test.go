package judge

import (
	"math"
	"slices"
	"testing"

	"manciple/api"
	"manciple/book"
	"manciple/conf"
	"manciple/machine"
	"manciple/reason"
	"manciple/samples"
	"manciple/session"
	"manciple/vec"
)

func v(s string) []api.Part {
	l, ok := vec.Parse(s)
	if !ok {
		panic(s)
	}
	return l
}

func offered(frame, id, agent int64, s string) api.Event {
	return api.Event{Kind: api.EvOffered, Frame: frame, ID: id, Agent: agent, Vec: v(s)}
}

// take passes calls with the replies that they should have.
func take(t *testing.T, j *Judge, calls ...api.Call) {
	t.Helper()
	for _, c := range calls {
		b, r := machine.Reply(j.Book(), c)
		if l := j.Take(c, r); len(l) > 0 || r.Code != api.OK || !book.Same(b, j.Book()) {
			t.Fatal(c, r, l)
		}
	}
}

// sample is a judge of two agents and of frameworks in the roles 2, 3 and 4, of which 3 has a task in role 2, and so does 5 in role 4.
func sample(t *testing.T) *Judge {
	t.Helper()
	c := conf.Small()
	c.Life = 9
	j, err := New(c)
	if err != api.OK {
		t.Fatal(err)
	}
	subscribe := func(frame int64, role int) api.Call {
		return api.Call{Kind: api.Subscribe, Frame: frame, Role: role, Weight: 1}
	}
	accept := func(frame, id int64, amount string) api.Call {
		return api.Call{Kind: api.Accept, Frame: frame, IDs: []int64{id}, Ops: []api.Op{{Kind: api.Launch, ID: 1, Vec: v(amount)}}}
	}
	register := func(id int64, total string) api.Call {
		return api.Call{Kind: api.Register, Agent: id, Vec: v(total)}
	}
	take(t, j, register(1, "cpus:8"), register(2, "mem:9,mem(4):1"), subscribe(3, 2), api.Call{Kind: api.Allocate, Agent: 1}, accept(3, 1, "cpus:1"),
		subscribe(5, 4), api.Call{Kind: api.Allocate, Agent: 1}, accept(5, 2, "cpus:2"), subscribe(1, 2), subscribe(2, 3), subscribe(4, 3))
	take(t, j, api.Call{Kind: api.Suppress, Frame: 4})
	return j
}

func expect(t *testing.T, name string, got []Flaw, want ...Flaw) {
	t.Helper()
	if !slices.Equal(got, want) {
		t.Error(name, got, want)
	}
}

// P31.1
func TestNewName(t *testing.T) {
	if j, err := New(api.Config{}); j != nil || err != api.ErrArg {
		t.Error(j, err)
	}
	j, err := New(conf.Small())
	start, _ := conf.Start(conf.Small())
	if err != api.OK || !book.Same(j.Book(), start) {
		t.Error(err)
	}
	for k, name := range []string{"", "unsound", "number", "barred", "whole", "role", "own", "left", "other", "", ""} {
		if Name(Kind(k)) != name {
			t.Error(k, Name(Kind(k)))
		}
	}
	if Name(-1) != "" || Name(math.MaxInt) != "" || Name(math.MinInt) != "" {
		t.Error("Name")
	}
	if Unsound != 1 || Number != 2 || Barred != 3 || Whole != 4 || Role != 5 || Own != 6 || Left != 7 || Other != 8 {
		t.Error("the numbers of the kinds")
	}
}

// P31.2: rejected calls, and calls that make no offers
func TestOthers(t *testing.T) {
	j := sample(t)
	b := j.Book()
	tick := api.Call{Kind: api.Tick, Time: 1}
	expect(t, "rejected", j.Take(tick, api.Reply{Code: api.ErrHorizon, Events: []api.Event{{}}}))
	expect(t, "rejected", j.Take(api.Call{Kind: api.Allocate, Agent: 1}, api.Reply{Code: api.ErrNil, Events: []api.Event{offered(2, 3, 1, "cpus:5")}}))
	expect(t, "cannot be", j.Take(api.Call{Kind: api.Tick, Time: 1001}, api.Reply{}), Flaw{-1, Unsound})
	expect(t, "cannot be", j.Take(api.Call{}, api.Reply{Events: []api.Event{{}}}), Flaw{-1, Unsound})
	if !book.Same(b, j.Book()) {
		t.Error("the book changed")
	}
	expect(t, "right", j.Take(tick, api.Reply{}))
	expect(t, "an event too many", j.Take(tick, api.Reply{Events: []api.Event{{Kind: api.EvExpired}}}), Flaw{-1, Other})
	if j.Book().Now != 2 {
		t.Error("the call is executed all the same")
	}
	register := api.Call{Kind: api.Register, Agent: 9, Vec: v("cpus:1")}
	expect(t, "another agent", j.Take(register, api.Reply{Events: []api.Event{{Kind: api.EvRegistered, Agent: 8, Vec: v("cpus:1")}}}), Flaw{-1, Other})
	expect(t, "again", j.Take(register, api.Reply{}))
}

// P31.2: offers. Of agent 1 cpus:5 is free; role 3 has the least share, then come 2 and 4.
func TestOffers(t *testing.T) {
	for _, c := range []struct {
		name   string
		agent  int64
		events []api.Event
		want   []Flaw
	}{
		{"right", 1, []api.Event{offered(2, 3, 1, "cpus:5")}, nil},
		{"none", 1, nil, []Flaw{{-1, Left}}},
		{"number", 1, []api.Event{offered(2, 4, 1, "cpus:5")}, []Flaw{{0, Number}}},
		{"barred", 1, []api.Event{offered(4, 3, 1, "cpus:5")}, []Flaw{{0, Barred}}},
		{"barred, and of the role that has most", 2, []api.Event{offered(1, 3, 2, "mem:9"), offered(5, 4, 2, "mem(4):1")}, []Flaw{{0, Barred}}},
		{"whole", 1, []api.Event{offered(2, 3, 1, "cpus:4"), offered(4, 4, 1, "cpus:1")}, []Flaw{{0, Whole}, {1, Barred}, {1, Role}}},
		{"role", 1, []api.Event{offered(1, 3, 1, "cpus:5")}, []Flaw{{0, Role}}},
		{"role and own", 1, []api.Event{offered(3, 3, 1, "cpus:5")}, []Flaw{{0, Role}, {0, Own}}},
		{"all", 1, []api.Event{offered(3, 9, 1, "cpus:1")}, []Flaw{{0, Number}, {0, Whole}, {0, Role}, {0, Own}, {-1, Left}}},
		{"unsound kind", 1, []api.Event{{Kind: api.EvDeclined, Frame: 2, ID: 3, Agent: 1, Vec: v("cpus:5")}, offered(2, 3, 1, "cpus:5")}, []Flaw{{0, Unsound}}},
		{"unsound agent", 1, []api.Event{offered(2, 3, 2, "mem:9"), offered(2, 3, 1, "cpus:5")}, []Flaw{{0, Unsound}}},
		{"unsound number", 1, []api.Event{offered(2, 2, 1, "cpus:5"), offered(2, 3, 1, "cpus:5")}, []Flaw{{0, Unsound}}},
		{"unsound number", 1, []api.Event{offered(2, 3, 1, "cpus:5"), offered(2, 1001, 1, "cpus:5")}, []Flaw{{1, Unsound}}},
		{"unsound amount", 1, []api.Event{offered(2, 3, 1, "cpus:6"), offered(2, 3, 1, "cpus:5")}, []Flaw{{0, Unsound}}},
		{"unsound vector", 1, []api.Event{offered(2, 3, 1, "-"), {Kind: api.EvOffered, Frame: 2, ID: 3, Agent: 1, Vec: []api.Part{{Amount: -1}}}}, []Flaw{{0, Unsound}, {1, Unsound}, {-1, Left}}},
		{"unsound framework", 1, []api.Event{offered(6, 3, 1, "cpus:5"), offered(2, 3, 1, "cpus:5")}, []Flaw{{0, Unsound}}},
		{"unsound role", 2, []api.Event{offered(2, 3, 2, "mem:9,mem(4):1"), offered(5, 3, 2, "mem(4):1"), offered(2, 4, 2, "mem:9")}, []Flaw{{0, Unsound}}},
		{"two passes", 2, []api.Event{offered(5, 3, 2, "mem(4):1"), offered(2, 4, 2, "mem:9")}, nil},
		{"whole in pass 1", 2, []api.Event{offered(5, 3, 2, "mem:9,mem(4):1")}, []Flaw{{0, Whole}}},
		{"left in pass 2", 2, []api.Event{offered(5, 3, 2, "mem(4):1")}, []Flaw{{-1, Left}}},
		{"no such agent", 7, nil, nil},
	} {
		j := sample(t)
		before := j.Book()
		got := j.Take(api.Call{Kind: api.Allocate, Agent: c.agent}, api.Reply{Events: c.events})
		expect(t, c.name, got, c.want...)
		after := j.Book()
		if rule, ok := book.Right(after); !ok {
			t.Error(c.name, "not valid", rule)
		}
		unsound := 0
		for _, f := range got {
			if f.Kind == Unsound {
				unsound++
			}
		}
		if len(after.Offers) != len(before.Offers)+len(c.events)-unsound {
			t.Error(c.name, "offers", after.Offers)
		}
	}
}

// P31.2: the offers of an All are of any agents, in any order.
func TestAll(t *testing.T) {
	all := api.Call{Kind: api.All, Agent: 1}
	one := []api.Event{offered(2, 3, 1, "cpus:5"), offered(5, 4, 2, "mem(4):1"), offered(1, 5, 2, "mem:9")}
	two := []api.Event{offered(5, 3, 2, "mem(4):1"), offered(2, 4, 1, "cpus:5"), offered(1, 5, 2, "mem:9")}
	expect(t, "one", sample(t).Take(all, api.Reply{Events: one}))
	expect(t, "mixed", sample(t).Take(all, api.Reply{Events: two}))
	expect(t, "left", sample(t).Take(all, api.Reply{Events: two[:2]}), Flaw{-1, Left})
	expect(t, "no such agent", sample(t).Take(all, api.Reply{Events: append(two, offered(2, 6, 7, "cpus:1"))}), Flaw{3, Unsound})
	j := sample(t)
	j.Take(all, api.Reply{Events: one})
	if o := j.Book().Offers; len(o) != 3 || o[2].Until != 9 || o[2].Frame != 1 || j.Book().Last != 5 {
		t.Error(o)
	}
}

// P31.4: replies of sessions have no flaws, and the books are the same.
func TestSessions(t *testing.T) {
	for seed := range samples.Source(40) {
		source := seed
		config := source.Config()
		s, _ := session.New(config)
		j, _ := New(config)
		for range 200 {
			c := source.Call(s.Book())
			r := s.Do(c)
			if l := j.Take(c, r); len(l) > 0 || !book.Same(s.Book(), j.Book()) {
				t.Fatal(c, r, l)
			}
		}
	}
}

// P31.4: for an Allocate, there are no flaws if and only if the reply is admissible.
func TestAdmissible(t *testing.T) {
	found := map[bool]int{}
	for seed := range samples.Source(60) {
		source := seed
		j, _ := New(source.Config())
		for range 200 {
			b := j.Book()
			c := source.Call(b)
			_, r := machine.Reply(b, c)
			if c.Kind == api.Allocate && len(reason.First(b, c)) == 0 {
				bend(&source, &r)
				other := &Judge{b, true}
				_, ok := machine.Step(b, c, r)
				if l := other.Take(c, r); ok != (len(l) == 0) {
					t.Fatal(c, r, l, ok)
				}
				found[ok]++
			} else {
				j.Take(c, r)
			}
		}
	}
	if found[true] < 100 || found[false] < 100 {
		t.Error(found)
	}
}

// bend changes something in many replies.
func bend(source *samples.Source, r *api.Reply) {
	if len(r.Events) == 0 {
		return
	}
	e := &r.Events[source.Below(len(r.Events))]
	switch source.Below(6) {
	case 0:
		e.Frame = int64(1 + source.Below(5))
	case 1:
		e.ID += int64(source.Below(3))
	case 2:
		e.Vec[0].Amount = max(1, e.Vec[0].Amount-int64(source.Below(2)))
	case 3:
		r.Events = r.Events[:source.Below(len(r.Events)+1)]
	}
}

// Rule 4: events are not kept.
func TestArguments(t *testing.T) {
	j := sample(t)
	e := offered(2, 3, 1, "cpus:5")
	j.Take(api.Call{Kind: api.Allocate, Agent: 1}, api.Reply{Events: []api.Event{e}})
	e.Vec[0].Amount = 1
	j.Book().Offers[0].Vec[0].Amount = 2
	if o := j.Book().Offers[0]; vec.Text(o.Vec) != "cpus:5" {
		t.Error(o)
	}
}

// P31.3
func TestNil(t *testing.T) {
	for _, j := range []*Judge{nil, {}} {
		for kind := range 17 {
			if l := j.Take(api.Call{Kind: kind, Agent: 1}, api.Reply{Events: []api.Event{{}}}); len(l) > 0 {
				t.Error(l)
			}
		}
		if !book.Same(j.Book(), api.Book{}) {
			t.Error("the book")
		}
	}
}

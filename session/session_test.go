package session

import (
	"math"
	"slices"
	"testing"

	"manciple/api"
	"manciple/book"
	"manciple/conf"
	"manciple/machine"
	"manciple/reason"
	"manciple/samples"
	"manciple/shape"
	"manciple/sums"
	"manciple/vec"
	"manciple/view"
)

func v(s string) []api.Part {
	l, ok := vec.Parse(s)
	if !ok {
		panic(s)
	}
	return l
}

func sameEvent(a, b api.Event) bool {
	return a.Kind == b.Kind && a.Frame == b.Frame && a.ID == b.ID && a.Agent == b.Agent && vec.Same(a.Vec, b.Vec)
}

func sameReply(a, b api.Reply) bool {
	return a.Code == b.Code && slices.EqualFunc(a.Events, b.Events, sameEvent)
}

func start(t *testing.T, c api.Config) *Session {
	t.Helper()
	s, err := New(c)
	if err != api.OK {
		t.Fatal(err)
	}
	return s
}

// do executes a call, which must be accepted, and returns the kinds of its events.
func do(t *testing.T, s *Session, c api.Call) []int {
	t.Helper()
	r := s.Do(c)
	if r.Code != api.OK {
		t.Error(c, r.Code)
	}
	return kinds(r.Events)
}

func kinds(l []api.Event) []int {
	var out []int
	for _, e := range l {
		out = append(out, e.Kind)
	}
	return out
}

func expect(t *testing.T, got []int, want ...int) {
	t.Helper()
	if !slices.Equal(got, want) {
		t.Error(got, want)
	}
}

func register(agent int64, s string) api.Call {
	return api.Call{Kind: api.Register, Agent: agent, Vec: v(s)}
}

func subscribe(frame int64, role int, weight, time int64) api.Call {
	return api.Call{Kind: api.Subscribe, Frame: frame, Role: role, Weight: weight, Time: time}
}

func allocate(agent int64) api.Call { return api.Call{Kind: api.Allocate, Agent: agent} }

func tick(time int64) api.Call { return api.Call{Kind: api.Tick, Time: time} }

// P29.1 and P29.2: the example
func TestExample(t *testing.T) {
	s := start(t, conf.Small())
	expect(t, do(t, s, register(1, "cpus:4")), api.EvRegistered)
	expect(t, do(t, s, subscribe(1, 2, 3, 0)), api.EvSubscribed)
	r := s.Do(allocate(1))
	if !sameReply(r, api.Reply{Events: []api.Event{{Kind: api.EvOffered, Frame: 1, ID: 1, Agent: 1, Vec: v("cpus:4")}}}) {
		t.Error(r)
	}
	expect(t, kinds(s.Take(1, 9)), api.EvSubscribed, api.EvOffered)
	expect(t, kinds(s.Take(1, 9)))
	if s, err := New(api.Config{}); s != nil || err != api.ErrArg {
		t.Error(s, err)
	}
}

// open is what a framework's queue should have.
type open struct {
	events []api.Event
	lost   int
}

// model keeps queues as the definition of P29.2 states.
func model(queues map[int64]*open, before, after api.Book, events []api.Event) {
	up := func(b api.Book, id int64) bool {
		i := book.Frame(b, id)
		return i >= 0 && b.Frames[i].Up
	}
	for id := range int64(8) {
		if !up(after, id) {
			delete(queues, id)
		} else if !up(before, id) {
			queues[id] = &open{}
		}
	}
	for _, e := range events {
		if q := queues[e.Frame]; q != nil {
			q.events = append(q.events, e)
			if len(q.events) > 256 {
				q.events = q.events[1:]
				q.lost++
			}
		}
	}
}

// P29.1, P29.2, P29.3 and P29.5; P18.3; M1 and M2: many calls, each reply of which is admissible.
func TestMany(t *testing.T) {
	for seed := range samples.Source(60) {
		source := seed
		s := start(t, source.Config())
		queues := map[int64]*open{}
		done, rejected := 0, 0
		for i := range 300 {
			before := s.Book()
			c := source.Call(before)
			r := s.Do(c)
			after := s.Book()
			b, ok := machine.Step(before, c, r)
			if !ok || !book.Same(b, after) {
				t.Fatal("not admissible", c, r)
			}
			if rule, ok := book.Right(after); !ok {
				t.Fatal("not valid", rule)
			}
			reasons := reason.First(before, c)
			if (r.Code == api.OK) != (len(reasons) == 0) || r.Code != api.OK && (!book.Same(before, after) || len(r.Events) > 0) {
				t.Fatal("rejected", c, r, reasons)
			}
			if r.Code == api.OK {
				done++
			} else {
				rejected++
			}
			if x, y := s.Count(); x != done || y != rejected {
				t.Fatal("Count", x, y)
			}
			model(queues, before, after, r.Events)
			if i%20 == 19 {
				check(t, s, queues)
			}
		}
	}
}

// P29.5 and M1: calls of any numbers whatsoever
func TestAnyNumbers(t *testing.T) {
	numbers := []int64{0, 1, 2, -1, api.Top, api.Top + 1, math.MaxInt64, math.MinInt64, 33}
	source := samples.Source(9)
	number := func() int64 { return numbers[source.Below(len(numbers))] }
	some := func() []api.Part {
		var l []api.Part
		for range source.Below(3) {
			l = append(l, api.Part{Kind: int(number()), Role: int(number()), Amount: number()})
		}
		return l
	}
	s := start(t, api.Config{Horizon: api.Top, Most: api.Top, IDs: api.Top, Life: api.Top, Cap: 4096})
	done := 0
	for range 20000 {
		c := api.Call{Kind: source.Below(18) - 1, Frame: number(), Agent: number(), ID: number(), Role: int(number()), Weight: number(), Time: number(), Vec: some()}
		for range source.Below(3) {
			c.IDs = append(c.IDs, number())
			c.Ops = append(c.Ops, api.Op{Kind: int(number()), ID: number(), Vec: some()})
		}
		before := s.Book()
		r := s.Do(c)
		if b, ok := machine.Step(before, c, r); !ok || !book.Same(b, s.Book()) {
			t.Fatal("not admissible", c, r)
		}
		if r.Code == api.OK {
			done++
		}
	}
	if rule, ok := book.Right(s.Book()); !ok || done < 100 {
		t.Error(rule, done)
	}
}

// check takes some of what is in all queues.
func check(t *testing.T, s *Session, queues map[int64]*open) {
	t.Helper()
	for id := range int64(8) {
		q := queues[id]
		if q == nil {
			q = &open{}
		}
		n := min(len(q.events), 1+int(id))
		if got := s.Take(id, 1+int(id)); !slices.EqualFunc(got, q.events[:n], sameEvent) || s.Lost(id) != q.lost {
			t.Fatal("Take", id, got, q.events[:n], s.Lost(id), q.lost)
		}
		q.events = q.events[n:]
	}
}

// P29.2: queues of frameworks that come and go
func TestQueues(t *testing.T) {
	s := start(t, conf.Small())
	do(t, s, register(1, "cpus:4"))
	do(t, s, subscribe(1, 2, 3, 5))
	do(t, s, allocate(1))
	do(t, s, subscribe(1, 2, 3, 5))
	expect(t, kinds(s.Take(1, 9)), api.EvSubscribed, api.EvOffered, api.EvSubscribed)
	expect(t, do(t, s, api.Call{Kind: api.Disconnect, Frame: 1}), api.EvRescinded, api.EvDisconnected)
	expect(t, kinds(s.Take(1, 9)))
	do(t, s, subscribe(1, 2, 3, 5))
	expect(t, kinds(s.Take(1, 1)), api.EvSubscribed)
	for range 258 {
		do(t, s, subscribe(1, 2, 3, 5))
	}
	if s.Lost(1) != 2 || len(s.Take(1, 999)) != 256 {
		t.Error(s.Lost(1))
	}
	do(t, s, api.Call{Kind: api.Teardown, Frame: 1})
	if s.Lost(1) != 0 || len(s.Take(1, 9)) > 0 {
		t.Error("the queue is closed")
	}
}

// P29.3
func TestRun(t *testing.T) {
	s := start(t, conf.Small())
	calls := []api.Call{
		register(1, "cpus:4"), subscribe(1, 2, 3, 0), {}, allocate(1),
		{Kind: api.Accept, Frame: 1, IDs: []int64{1}, Ops: []api.Op{{Kind: api.Launch, ID: 1, Vec: v("cpus:1")}}}, tick(1), tick(2),
	}
	seq := s.Run(calls)
	if done, rejected := s.Count(); done+rejected > 0 {
		t.Error("executed too early")
	}
	// The iterator does not depend on what becomes of the list.
	calls[0].Vec[0].Amount, calls[4].IDs[0], calls[4].Ops[0].Vec[0].Amount, calls[4].Ops[0].ID = 1, 9, 1, 9
	calls[1] = api.Call{}
	var codes []api.Errno
	for i, r := range seq {
		if i != len(codes) {
			t.Error("index", i)
		}
		codes = append(codes, r.Code)
		if i == 5 {
			break
		}
	}
	if !slices.Equal(codes, []api.Errno{0, 0, api.ErrForm, 0, 0, 0}) {
		t.Error(codes)
	}
	if done, rejected := s.Count(); done != 5 || rejected != 1 {
		t.Error(done, rejected)
	}
	b := s.Book()
	if b.Now != 1 || len(b.Tasks) != 1 || b.Tasks[0].ID != 1 || vec.Text(b.Tasks[0].Vec) != "cpus:1" || vec.Text(b.Agents[0].Free) != "cpus:3" {
		t.Error(b)
	}
	for range s.Run(nil) {
		t.Error("no calls")
	}
}

// P29.4
func TestNil(t *testing.T) {
	for _, s := range []*Session{nil, {}} {
		if r := s.Do(tick(1)); r.Code != api.ErrNil || len(r.Events) > 0 {
			t.Error(r)
		}
		done, rejected := s.Count()
		if !book.Same(s.Book(), api.Book{}) || len(s.Take(1, 1)) > 0 || s.Lost(1)+done+rejected != 0 {
			t.Error("something is there")
		}
		for range s.Run([]api.Call{tick(1)}) {
			t.Error("yielded")
		}
	}
}

// A session has the methods of its stock.
func TestPromoted(t *testing.T) {
	s := start(t, conf.Small())
	do(t, s, register(7, "cpus:4"))
	do(t, s, subscribe(1, 2, 3, 5))
	if _, ok := s.Share(2); !ok || !slices.Equal(s.Agents(), []int64{7}) {
		t.Error("Share, Agents")
	}
}

// M3: what is free, offered and running adds up, slots of an agent change only by reserving, and roles of frameworks do not change.
func TestLedger(t *testing.T) {
	source := samples.Source(77)
	s := start(t, api.Config{Horizon: 1000, Most: 100, IDs: 5000, Cap: 9})
	turned := 0
	for range 1500 {
		before := s.Book()
		r := s.Do(source.Call(before))
		after := s.Book()
		for _, f := range after.Frames {
			if i := book.Frame(before, f.ID); i >= 0 && before.Frames[i].Role != f.Role {
				t.Fatal("the role changed", f)
			}
		}
		reserving := slices.ContainsFunc(r.Events, func(e api.Event) bool { return e.Kind >= api.EvReserved })
		for _, a := range after.Agents {
			i := book.Agent(before, a.ID)
			if i < 0 {
				continue
			}
			if !vec.Same(a.Total, before.Agents[i].Total) {
				turned++
				if !reserving || sums.Of(a.Total) != sums.Of(before.Agents[i].Total) {
					t.Fatal("the total changed", a)
				}
			}
		}
		if rule, ok := book.Right(after); !ok {
			t.Fatal(rule)
		}
	}
	if turned == 0 {
		t.Error("nothing was reserved")
	}
}

// M5: offers are everything, and after an Allocate no framework is eligible.
func TestFairness(t *testing.T) {
	s := start(t, conf.Small())
	do(t, s, register(1, "cpus:4"))
	do(t, s, register(2, "cpus:4"))
	do(t, s, subscribe(1, 2, 1, 0))
	do(t, s, subscribe(2, 3, 1, 0))
	do(t, s, allocate(1))
	do(t, s, api.Call{Kind: api.Accept, Frame: 1, IDs: []int64{1}, Ops: []api.Op{{Kind: api.Launch, ID: 1, Vec: v("cpus:1")}}})
	r := s.Do(allocate(2))
	if len(r.Events) != 1 || r.Events[0].Frame != 2 || vec.Text(r.Events[0].Vec) != "cpus:4" || !view.Quiet(s.Book(), 2) {
		t.Error(r)
	}
}

// M6: the same calls have the same replies.
func TestRepeatability(t *testing.T) {
	var calls []api.Call
	source := samples.Source(5)
	s := start(t, conf.Small())
	var replies []api.Reply
	for range 500 {
		c := source.Call(s.Book())
		calls = append(calls, c)
		replies = append(replies, s.Do(shape.Bare(c)))
	}
	for i, r := range start(t, conf.Small()).Run(calls) {
		if !sameReply(r, replies[i]) {
			t.Fatal(i, r, replies[i])
		}
	}
}

// M7: times of offers, filters and frameworks that are away
func TestTime(t *testing.T) {
	c := conf.Small()
	c.Life = 3
	s := start(t, c)
	do(t, s, register(1, "cpus:4"))
	do(t, s, subscribe(1, 2, 1, 2))
	expect(t, do(t, s, allocate(1)), api.EvOffered)
	expect(t, do(t, s, tick(2)))
	expect(t, do(t, s, tick(1)), api.EvExpired)
	expect(t, do(t, s, allocate(1)), api.EvOffered)
	expect(t, do(t, s, api.Call{Kind: api.Decline, Frame: 1, IDs: []int64{2}, Time: 5}), api.EvDeclined)
	expect(t, do(t, s, tick(4)))
	expect(t, do(t, s, allocate(1)))
	expect(t, do(t, s, tick(1)))
	expect(t, do(t, s, allocate(1)), api.EvOffered)
	expect(t, do(t, s, api.Call{Kind: api.Accept, Frame: 1, IDs: []int64{3}, Ops: []api.Op{{Kind: api.Launch, ID: 1, Vec: v("cpus:1")}}}), api.EvAccepted, api.EvLaunched)
	do(t, s, api.Call{Kind: api.Disconnect, Frame: 1})
	expect(t, do(t, s, tick(1)))
	if r := s.Do(api.Call{Kind: api.Tick, Time: 992}); r.Code != api.ErrHorizon || s.Book().Now != 9 {
		t.Error(r)
	}
	expect(t, do(t, s, tick(1)), api.EvTaskDropped, api.EvGone)
}

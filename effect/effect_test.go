package effect

import (
	"slices"
	"testing"

	"manciple/api"
	"manciple/book"
	"manciple/vec"
)

func v(s string) []api.Part {
	l, ok := vec.Parse(s)
	if !ok {
		panic(s)
	}
	return l
}

// sample is a valid book with everything in it.
func sample() api.Book {
	return api.Book{
		Config: api.Config{Horizon: 100, Most: 50000, IDs: 20, Life: 10, Cap: 10},
		Now:    5, Last: 9,
		Frames: []api.Frame{
			{ID: 1, Role: 2, Weight: 3, Up: true, Time: 4},
			{ID: 3, Role: 2, Weight: 3, Time: 4, Until: 7},
			{ID: 7, Role: 5, Weight: 1, Up: true, Quiet: true, Time: 0},
		},
		Agents: []api.Agent{
			{ID: 2, Total: v("cpus:9,cpus(2):4,mem:20"), Free: v("cpus:1,mem:8")},
			{ID: 4, Total: v("cpus:10,disk(5):6"), Free: v("cpus:7")},
		},
		Offers: []api.Offer{
			{ID: 5, Frame: 1, Agent: 2, Vec: v("cpus:1"), Until: 8},
			{ID: 6, Frame: 1, Agent: 2, Vec: v("cpus:3,cpus(2):1"), Until: 7},
			{ID: 8, Frame: 1, Agent: 4, Vec: v("cpus:1"), Until: 7},
			{ID: 9, Frame: 7, Agent: 4, Vec: v("cpus:2,disk(5):6"), Until: 15},
		},
		Tasks: []api.Task{
			{Frame: 1, ID: 8, Agent: 2, Vec: v("cpus:4,cpus(2):2")},
			{Frame: 3, ID: 1, Agent: 2, Vec: v("cpus(2):1,mem:12")},
		},
		Filters: []api.Filter{
			{Frame: 1, Agent: 2, Until: 6, Vec: v("cpus:1")},
			{Frame: 1, Agent: 2, Until: 8, Vec: v("cpus:1")},
			{Frame: 3, Agent: 4, Until: 9, Vec: v("gpus(9):1")},
		},
	}
}

func ev(kind int, frame, id, agent int64, s string) api.Event {
	return api.Event{Kind: kind, Frame: frame, ID: id, Agent: agent, Vec: v(s)}
}

func sameEvent(a, b api.Event) bool {
	return a.Kind == b.Kind && a.Frame == b.Frame && a.ID == b.ID && a.Agent == b.Agent && vec.Same(a.Vec, b.Vec)
}

// check executes a call on the sample and holds the result against the sample with some change.
func check(t *testing.T, name string, c api.Call, change func(b *api.Book), events ...api.Event) {
	t.Helper()
	b, want := sample(), sample()
	change(&want)
	for _, x := range []api.Book{b, want} {
		if rule, ok := book.Right(x); !ok {
			t.Fatal(name, "not valid", rule)
		}
	}
	got, l, ok := Do(b, c)
	if !ok || !book.Same(got, want) {
		t.Error(name, ok, "\n", got, "\n", want)
	}
	if !slices.EqualFunc(l, events, sameEvent) {
		t.Error(name, l, events)
	}
	if !book.Same(b, sample()) {
		t.Error(name, "the argument was changed")
	}
}

// P19.1
func TestRegister(t *testing.T) {
	check(t, "new", api.Call{Kind: api.Register, Agent: 3, Vec: v("gpus(7):5")}, func(b *api.Book) {
		b.Agents = slices.Insert(b.Agents, 1, api.Agent{ID: 3, Total: v("gpus(7):5"), Free: v("gpus(7):5")})
	}, ev(api.EvRegistered, 0, 0, 3, "gpus(7):5"))
	check(t, "last", api.Call{Kind: api.Register, Agent: 5, Vec: v("gpus:5")}, func(b *api.Book) {
		b.Agents = append(b.Agents, api.Agent{ID: 5, Total: v("gpus:5"), Free: v("gpus:5")})
	}, ev(api.EvRegistered, 0, 0, 5, "gpus:5"))
	check(t, "again", api.Call{Kind: api.Register, Agent: 4, Vec: v("cpus:10,disk(5):6")}, func(b *api.Book) {})
	check(t, "the first one again", api.Call{Kind: api.Register, Agent: 2, Vec: v("cpus:9,cpus(2):4,mem:20")}, func(b *api.Book) {})
}

// P19.1 and P19.3
func TestLose(t *testing.T) {
	check(t, "agent 2", api.Call{Kind: api.Lose, Agent: 2}, func(b *api.Book) {
		b.Agents, b.Offers, b.Tasks, b.Filters = b.Agents[1:], b.Offers[2:], nil, b.Filters[2:]
	}, ev(api.EvLost, 1, 5, 2, "cpus:1"), ev(api.EvLost, 1, 6, 2, "cpus:3,cpus(2):1"),
		ev(api.EvTaskLost, 1, 8, 2, "cpus:4,cpus(2):2"), ev(api.EvTaskLost, 3, 1, 2, "cpus(2):1,mem:12"), ev(api.EvLeft, 0, 0, 2, "-"))
}

// P19.1
func TestSubscribe(t *testing.T) {
	check(t, "new", api.Call{Kind: api.Subscribe, Frame: 2, Role: 9, Weight: 8, Time: 7}, func(b *api.Book) {
		b.Frames = slices.Insert(b.Frames, 1, api.Frame{ID: 2, Role: 9, Weight: 8, Up: true, Time: 7})
	}, ev(api.EvSubscribed, 2, 0, 0, "-"))
	check(t, "back", api.Call{Kind: api.Subscribe, Frame: 3, Role: 2, Weight: 3, Time: 6}, func(b *api.Book) {
		b.Frames[1] = api.Frame{ID: 3, Role: 2, Weight: 3, Up: true, Time: 6}
	}, ev(api.EvSubscribed, 3, 0, 0, "-"))
	check(t, "the first one", api.Call{Kind: api.Subscribe, Frame: 1, Role: 2, Weight: 3, Time: 6}, func(b *api.Book) {
		b.Frames[0].Time = 6
	}, ev(api.EvSubscribed, 1, 0, 0, "-"))
	check(t, "up and quiet", api.Call{Kind: api.Subscribe, Frame: 7, Role: 5, Weight: 1, Time: 6}, func(b *api.Book) {
		b.Frames[2].Time = 6
	}, ev(api.EvSubscribed, 7, 0, 0, "-"))
}

// P19.1
func TestDisconnectTeardown(t *testing.T) {
	check(t, "disconnect", api.Call{Kind: api.Disconnect, Frame: 1}, func(b *api.Book) {
		b.Frames[0].Up, b.Frames[0].Until = false, 9
		b.Offers = b.Offers[3:]
		b.Agents[0].Free, b.Agents[1].Free = v("cpus:5,cpus(2):1,mem:8"), v("cpus:8")
	}, ev(api.EvRescinded, 1, 5, 2, "cpus:1"), ev(api.EvRescinded, 1, 6, 2, "cpus:3,cpus(2):1"), ev(api.EvRescinded, 1, 8, 4, "cpus:1"), ev(api.EvDisconnected, 1, 0, 0, "-"))
	check(t, "disconnect for no time", api.Call{Kind: api.Disconnect, Frame: 7}, func(b *api.Book) {
		b.Frames[2].Up, b.Frames[2].Until = false, 5
		b.Offers = b.Offers[:3]
		b.Agents[1].Free = v("cpus:9,disk(5):6")
	}, ev(api.EvRescinded, 7, 9, 4, "cpus:2,disk(5):6"), ev(api.EvDisconnected, 7, 0, 0, "-"))
	check(t, "teardown", api.Call{Kind: api.Teardown, Frame: 1}, func(b *api.Book) {
		b.Frames, b.Offers, b.Tasks, b.Filters = b.Frames[1:], b.Offers[3:], b.Tasks[1:], b.Filters[2:]
		b.Agents[0].Free, b.Agents[1].Free = v("cpus:9,cpus(2):3,mem:8"), v("cpus:8")
	}, ev(api.EvDropped, 1, 5, 2, "cpus:1"), ev(api.EvDropped, 1, 6, 2, "cpus:3,cpus(2):1"), ev(api.EvDropped, 1, 8, 4, "cpus:1"),
		ev(api.EvTaskDropped, 1, 8, 2, "cpus:4,cpus(2):2"), ev(api.EvGone, 1, 0, 0, "-"))
	check(t, "teardown of who is away", api.Call{Kind: api.Teardown, Frame: 3}, func(b *api.Book) {
		b.Frames, b.Tasks, b.Filters = slices.Delete(b.Frames, 1, 2), b.Tasks[:1], b.Filters[:2]
		b.Agents[0].Free = v("cpus:1,cpus(2):1,mem:20")
	}, ev(api.EvTaskDropped, 3, 1, 2, "cpus(2):1,mem:12"), ev(api.EvGone, 3, 0, 0, "-"))
}

// P19.1
func TestAccept(t *testing.T) {
	five, six := ev(api.EvAccepted, 1, 5, 2, "cpus:1"), ev(api.EvAccepted, 1, 6, 2, "cpus:3,cpus(2):1")
	ops := []api.Op{
		{Kind: api.Reserve, ID: 1, Vec: v("cpus:2")},
		{Kind: api.Launch, ID: 9, Vec: v("cpus:1,cpus(2):1")},
		{Kind: api.Launch, ID: 2, Vec: v("cpus(2):1")},
		{Kind: api.Unreserve, Vec: v("cpus(2):0.5")},
	}
	told := []api.Event{five, six, ev(api.EvReserved, 1, 0, 2, "cpus:2"), ev(api.EvLaunched, 1, 9, 2, "cpus:1,cpus(2):1"), ev(api.EvLaunched, 1, 2, 2, "cpus(2):1"), ev(api.EvUnreserved, 1, 0, 2, "cpus(2):0.5")}
	change := func(b *api.Book) {
		b.Offers = b.Offers[2:]
		b.Agents[0].Total, b.Agents[0].Free = v("cpus:7.5,cpus(2):5.5,mem:20"), v("cpus:2.5,cpus(2):0.5,mem:8")
		b.Tasks = slices.Insert(b.Tasks, 1, api.Task{Frame: 1, ID: 9, Agent: 2, Vec: v("cpus:1,cpus(2):1")})
		b.Tasks = slices.Insert(b.Tasks, 0, api.Task{Frame: 1, ID: 2, Agent: 2, Vec: v("cpus(2):1")})
	}
	check(t, "two offers", api.Call{Kind: api.Accept, Frame: 1, IDs: []int64{6, 5}, Ops: ops}, change, told...)
	check(t, "with a filter", api.Call{Kind: api.Accept, Frame: 1, IDs: []int64{5, 6}, Ops: ops, Time: 2}, func(b *api.Book) {
		change(b)
		b.Filters = slices.Insert(b.Filters, 1, api.Filter{Frame: 1, Agent: 2, Until: 7, Vec: v("cpus:1.5,cpus(2):0.5")})
	}, told...)
	check(t, "nothing remains", api.Call{Kind: api.Accept, Frame: 1, IDs: []int64{5}, Ops: []api.Op{{Kind: api.Launch, ID: 1, Vec: v("cpus:1")}}, Time: 2}, func(b *api.Book) {
		b.Offers = b.Offers[1:]
		b.Tasks = slices.Insert(b.Tasks, 0, api.Task{Frame: 1, ID: 1, Agent: 2, Vec: v("cpus:1")})
	}, five, ev(api.EvLaunched, 1, 1, 2, "cpus:1"))
	check(t, "an equal filter exists", api.Call{Kind: api.Accept, Frame: 1, IDs: []int64{5}, Time: 3}, func(b *api.Book) {
		b.Offers = b.Offers[1:]
		b.Agents[0].Free = v("cpus:2,mem:8")
	}, five)
}

// P19.1
func TestDecline(t *testing.T) {
	told := []api.Event{ev(api.EvDeclined, 1, 5, 2, "cpus:1"), ev(api.EvDeclined, 1, 6, 2, "cpus:3,cpus(2):1"), ev(api.EvDeclined, 1, 8, 4, "cpus:1")}
	change := func(b *api.Book) {
		b.Offers = b.Offers[3:]
		b.Agents[0].Free, b.Agents[1].Free = v("cpus:5,cpus(2):1,mem:8"), v("cpus:8")
	}
	check(t, "for no time", api.Call{Kind: api.Decline, Frame: 1, IDs: []int64{8, 6, 5}}, change, told...)
	check(t, "for some time", api.Call{Kind: api.Decline, Frame: 1, IDs: []int64{8, 5, 6}, Time: 3}, func(b *api.Book) {
		change(b)
		b.Filters = slices.Insert(b.Filters, 2, api.Filter{Frame: 1, Agent: 2, Until: 8, Vec: v("cpus:3,cpus(2):1")}, api.Filter{Frame: 1, Agent: 4, Until: 8, Vec: v("cpus:1")})
	}, told...)
}

// P19.1
func TestOthers(t *testing.T) {
	check(t, "rescind", api.Call{Kind: api.Rescind, ID: 9}, func(b *api.Book) {
		b.Offers = b.Offers[:3]
		b.Agents[1].Free = v("cpus:9,disk(5):6")
	}, ev(api.EvRescinded, 7, 9, 4, "cpus:2,disk(5):6"))
	check(t, "revive", api.Call{Kind: api.Revive, Frame: 1}, func(b *api.Book) { b.Filters = b.Filters[2:] })
	check(t, "revive who is quiet", api.Call{Kind: api.Revive, Frame: 7}, func(b *api.Book) { b.Frames[2].Quiet = false })
	check(t, "suppress", api.Call{Kind: api.Suppress, Frame: 1}, func(b *api.Book) { b.Frames[0].Quiet = true })
	check(t, "suppress who is quiet", api.Call{Kind: api.Suppress, Frame: 7}, func(b *api.Book) {})
	ended := func(b *api.Book) {
		b.Tasks = b.Tasks[1:]
		b.Agents[0].Free = v("cpus:5,cpus(2):2,mem:8")
	}
	check(t, "kill", api.Call{Kind: api.Kill, Frame: 1, ID: 8}, ended, ev(api.EvKilled, 1, 8, 2, "cpus:4,cpus(2):2"))
	check(t, "finish", api.Call{Kind: api.Finish, Frame: 1, ID: 8}, ended, ev(api.EvFinished, 1, 8, 2, "cpus:4,cpus(2):2"))
}

// P19.1
func TestTick(t *testing.T) {
	check(t, "by nothing", api.Call{Kind: api.Tick}, func(b *api.Book) {})
	check(t, "by 1", api.Call{Kind: api.Tick, Time: 1}, func(b *api.Book) {
		b.Now = 6
		b.Filters = b.Filters[1:]
	})
	check(t, "by 3", api.Call{Kind: api.Tick, Time: 3}, func(b *api.Book) {
		b.Now = 8
		b.Filters = nil
		b.Frames = slices.Delete(b.Frames, 1, 2)
		b.Tasks = b.Tasks[:1]
		b.Offers = b.Offers[3:]
		b.Agents[0].Free, b.Agents[1].Free = v("cpus:5,cpus(2):2,mem:20"), v("cpus:8")
	}, ev(api.EvExpired, 1, 6, 2, "cpus:3,cpus(2):1"), ev(api.EvExpired, 1, 8, 4, "cpus:1"), ev(api.EvTaskDropped, 3, 1, 2, "cpus(2):1,mem:12"), ev(api.EvGone, 3, 0, 0, "-"), ev(api.EvExpired, 1, 5, 2, "cpus:1"))
}

// P19.1: a framework that is disconnected for no time is removed by a Tick of 0.
func TestTickOfNothing(t *testing.T) {
	b, _, _ := Do(sample(), api.Call{Kind: api.Disconnect, Frame: 7})
	got, l, ok := Do(b, api.Call{Kind: api.Tick})
	if !ok || got.Now != 5 || book.Frame(got, 7) >= 0 || !slices.EqualFunc(l, []api.Event{ev(api.EvGone, 7, 0, 0, "-")}, sameEvent) {
		t.Error(got, l, ok)
	}
}

// P19.2
func TestDue(t *testing.T) {
	b := sample()
	b.Frames = append(b.Frames, api.Frame{ID: 9, Role: 1, Weight: 1, Until: 8})
	b.Offers = append(b.Offers, api.Offer{ID: 11})
	for now, want := range map[int64][]Fall{
		6:       nil,
		7:       {{7, false, 6}, {7, false, 8}, {7, true, 3}},
		8:       {{7, false, 6}, {7, false, 8}, {7, true, 3}, {8, false, 5}, {8, true, 9}},
		1 << 60: {{7, false, 6}, {7, false, 8}, {7, true, 3}, {8, false, 5}, {8, true, 9}, {15, false, 9}},
	} {
		if got := Due(b, now); !slices.Equal(got, want) {
			t.Error(now, got)
		}
	}
}

// P19.2: many that are due at once
func TestDueAtOnce(t *testing.T) {
	var b api.Book
	var want []Fall
	for id := int64(1); id <= 40; id++ {
		b.Offers = append(b.Offers, api.Offer{ID: id * 7 % 41, Until: 5})
		b.Frames = append(b.Frames, api.Frame{ID: id * 11 % 41, Until: 5})
		want = append(want, Fall{5, false, id})
	}
	for id := int64(1); id <= 40; id++ {
		want = append(want, Fall{5, true, id})
	}
	if got := Due(b, 5); !slices.Equal(got, want) {
		t.Error(got)
	}
}

// P19.1: tasks that have the Frame or the ID of the one that ends go on.
func TestOtherTasksGoOn(t *testing.T) {
	b := sample()
	b.Agents[0].Free = v("mem:8")
	b.Tasks = []api.Task{b.Tasks[0], {Frame: 1, ID: 9, Agent: 2, Vec: v("cpus:0.5")}, b.Tasks[1], {Frame: 3, ID: 8, Agent: 2, Vec: v("cpus:0.5")}}
	got, l, ok := Do(b, api.Call{Kind: api.Finish, Frame: 1, ID: 8})
	if rule, is := book.Right(b); !ok || !is || len(l) != 1 || len(got.Tasks) != 3 || book.Task(got, 1, 8) >= 0 {
		t.Error(got, l, ok, rule)
	}
}

// P19.1: what is not done
func TestNotDone(t *testing.T) {
	for _, c := range []api.Call{
		{Kind: api.Allocate, Agent: 2}, {Kind: api.All}, {}, {Kind: api.Tick, Time: 96}, {Kind: api.Rescind, ID: 7},
		{Kind: api.Kill, Frame: 3, ID: 1}, {Kind: api.Accept, Frame: 1, IDs: []int64{5, 8}}, {Kind: api.Decline, Frame: 1, IDs: []int64{5, 5}},
	} {
		if b, l, ok := Do(sample(), c); ok || len(l) > 0 || !book.Same(b, api.Book{}) {
			t.Error(c, b, l, ok)
		}
	}
}

// Rule 4: no two lists of the result share memory.
func TestResultsAreNew(t *testing.T) {
	c := api.Call{Kind: api.Register, Agent: 3, Vec: v("gpus:5")}
	b, l, _ := Do(sample(), c)
	l[0].Vec[0].Amount = 1
	b.Agents[1].Free[0].Amount = 2
	if b.Agents[1].Total[0].Amount != 5000 || c.Vec[0].Amount != 5000 {
		t.Error("shared", b.Agents[1], c)
	}
	c = api.Call{Kind: api.Decline, Frame: 1, IDs: []int64{8}, Time: 9}
	b, l, _ = Do(sample(), c)
	l[0].Vec[0].Amount = 1
	if f := b.Filters[2]; f.Vec[0].Amount != 1000 {
		t.Error("shared", f)
	}
}

package pick

import (
	"slices"
	"testing"

	"manciple/api"
	"manciple/book"
	"manciple/vec"
	"manciple/view"
)

func v(s string) []api.Part {
	l, ok := vec.Parse(s)
	if !ok {
		panic(s)
	}
	return l
}

func ev(frame, id, agent int64, s string) api.Event {
	return api.Event{Kind: api.EvOffered, Frame: frame, ID: id, Agent: agent, Vec: v(s)}
}

func sameEvent(a, b api.Event) bool {
	return a.Kind == b.Kind && a.Frame == b.Frame && a.ID == b.ID && a.Agent == b.Agent && vec.Same(a.Vec, b.Vec)
}

func right(t *testing.T, b api.Book) {
	t.Helper()
	if rule, ok := book.Right(b); !ok {
		t.Fatal("not valid", rule)
	}
}

// sample has two frameworks in each of the roles 2 and 3, which have as much as each other in relation to their weights, and one in role 4.
func sample() api.Book {
	return api.Book{
		Config: api.Config{Horizon: 100, Most: 90000, IDs: 20, Cap: 10},
		Now:    5, Last: 3,
		Frames: []api.Frame{
			{ID: 1, Role: 2, Weight: 1, Up: true}, {ID: 2, Role: 3, Weight: 2, Up: true}, {ID: 3, Role: 2, Weight: 1, Up: true},
			{ID: 4, Role: 3, Weight: 2, Up: true}, {ID: 5, Role: 4, Weight: 1, Up: true},
		},
		Agents: []api.Agent{
			{ID: 1, Total: v("cpus:60"), Free: v("cpus:40")},
			{ID: 2, Total: v("mem:9,mem(4):3"), Free: v("mem:9,mem(4):3")},
			{ID: 3, Total: v("disk(9):3"), Free: v("disk(9):3")},
		},
		Tasks: []api.Task{
			{Frame: 1, ID: 1, Agent: 1, Vec: v("cpus:2")}, {Frame: 2, ID: 1, Agent: 1, Vec: v("cpus:4")},
			{Frame: 3, ID: 1, Agent: 1, Vec: v("cpus:2")}, {Frame: 4, ID: 1, Agent: 1, Vec: v("cpus:4")},
			{Frame: 5, ID: 1, Agent: 1, Vec: v("cpus:8")},
		},
	}
}

// P20.1
func TestPassAllowed(t *testing.T) {
	for _, c := range []struct {
		name   string
		agent  int64
		change func(b *api.Book)
		pass   int
		want   []int64
	}{
		{"ties of two roles", 1, func(b *api.Book) {}, 2, []int64{1, 2, 3, 4}},
		{"less in a role", 1, func(b *api.Book) { b.Tasks[1].Vec, b.Tasks[3].Vec = v("cpus:5"), v("cpus:3") }, 2, []int64{1, 3, 4}},
		{"a role has less", 1, func(b *api.Book) { b.Agents[0].Free, b.Tasks[3].Vec = v("cpus:41"), v("cpus:3") }, 2, []int64{4}},
		{"a weight is less", 1, func(b *api.Book) { b.Frames[1].Weight, b.Frames[3].Weight = 1, 1 }, 2, []int64{1, 3}},
		{"a weight is greater", 1, func(b *api.Book) { b.Frames[4].Weight = 3 }, 2, []int64{5}},
		{"who has less is quiet", 1, func(b *api.Book) { b.Tasks[1].Vec, b.Tasks[3].Vec, b.Frames[3].Quiet = v("cpus:5"), v("cpus:3"), true }, 2, []int64{1, 2, 3}},
		{"who has less is away", 1, func(b *api.Book) { b.Frames[0].Up, b.Frames[2].Up = false, false }, 2, []int64{2, 4}},
		{"reserved", 2, func(b *api.Book) {}, 1, []int64{5}},
		{"reserved, not wanted", 2, func(b *api.Book) { b.Frames[4].Quiet = true }, 2, []int64{1, 2, 3, 4}},
		{"reserved for nobody", 3, func(b *api.Book) {}, 0, nil},
		{"no such agent", 4, func(b *api.Book) {}, 0, nil},
	} {
		b := sample()
		c.change(&b)
		right(t, b)
		if got := Pass(b, c.agent); got != c.pass {
			t.Error(c.name, got)
		}
		if got := Allowed(b, c.agent); !slices.Equal(got, c.want) {
			t.Error(c.name, got)
		}
	}
}

// P20.2
func TestOffer(t *testing.T) {
	want := sample()
	want.Agents[0].Free, want.Last = nil, 4
	want.Offers = []api.Offer{{ID: 4, Frame: 3, Agent: 1, Vec: v("cpus:40")}}
	b := sample()
	got, e, ok := Offer(b, 3, 1)
	if !ok || !book.Same(got, want) || !sameEvent(e, ev(3, 4, 1, "cpus:40")) || !book.Same(b, sample()) {
		t.Error(got, e, ok)
	}
	right(t, got)
	e.Vec[0].Amount = 1
	if got.Offers[0].Vec[0].Amount != 40000 {
		t.Error("shared")
	}
	b.Config.Life = 7
	got, _, ok = Offer(b, 5, 2)
	if !ok || got.Offers[0].Until != 12 || vec.Text(got.Offers[0].Vec) != "mem(4):3" || vec.Text(got.Agents[1].Free) != "mem:9" {
		t.Error(got, ok)
	}
	right(t, got)
	full := sample()
	full.Config.IDs = 3
	for _, c := range []struct {
		b            api.Book
		frame, agent int64
	}{{sample(), 5, 1}, {sample(), 1, 2}, {sample(), 9, 1}, {sample(), 1, 9}, {sample(), 1, 3}, {full, 1, 1}} {
		if got, e, ok := Offer(c.b, c.frame, c.agent); ok || !book.Same(got, api.Book{}) || !sameEvent(e, api.Event{}) {
			t.Error(c.frame, c.agent, got, e, ok)
		}
	}
}

// P20.3 and P20.4
func TestRun(t *testing.T) {
	b := sample()
	got, l := Run(b, 2)
	if !slices.EqualFunc(l, []api.Event{ev(5, 4, 2, "mem(4):3"), ev(1, 5, 2, "mem:9")}, sameEvent) {
		t.Error(l)
	}
	right(t, got)
	if !view.Quiet(got, 2) || got.Last != 5 || len(got.Offers) != 2 || !book.Same(b, sample()) {
		t.Error(got)
	}
	for _, agent := range []int64{3, 9} {
		got, l := Run(b, agent)
		if len(l) > 0 || !book.Same(got, b) {
			t.Error(agent, l)
		}
		got.Agents[0].Free[0].Amount = 1
		if !book.Same(b, sample()) {
			t.Error("shared")
		}
	}
	b.Config.IDs = 4
	got, l = Run(b, 2)
	if !slices.EqualFunc(l, []api.Event{ev(5, 4, 2, "mem(4):3")}, sameEvent) || got.Last != 4 {
		t.Error("numbers ran out", l)
	}
	b.Last = 4
	if _, l := Run(b, 2); len(l) > 0 {
		t.Error("no number is left", l)
	}
}

// P20.3
func TestAll(t *testing.T) {
	b := sample()
	got, l := All(b)
	want := []api.Event{ev(1, 4, 1, "cpus:40"), ev(5, 5, 2, "mem(4):3"), ev(2, 6, 2, "mem:9")}
	if !slices.EqualFunc(l, want, sameEvent) || !book.Same(b, sample()) {
		t.Error(l)
	}
	right(t, got)
	if !view.Quiet(got, 1) || !view.Quiet(got, 2) || !view.Quiet(got, 3) {
		t.Error("somebody is eligible")
	}
	if got, l := All(api.Book{Config: b.Config}); len(l) > 0 || !book.Same(got, api.Book{Config: b.Config}) {
		t.Error("no agents", l)
	}
}

// P20.3: the next candidate is looked for anew after each offer.
func TestFilteredCandidates(t *testing.T) {
	b := sample()
	b.Agents[1] = api.Agent{ID: 2, Total: v("mem:9,mem(2):1,mem(3):2"), Free: v("mem:9,mem(2):1,mem(3):2")}
	b.Filters = []api.Filter{{Frame: 1, Agent: 2, Until: 9, Vec: v("mem(2):1")}, {Frame: 3, Agent: 2, Until: 9, Vec: v("mem:9,mem(2):2")}}
	right(t, b)
	got, l := Run(b, 2)
	// Role 3 is served in pass 1; role 2 wants nothing of pass 1, and 1 gets all that is left in pass 2.
	want := []api.Event{ev(2, 4, 2, "mem(3):2"), ev(1, 5, 2, "mem:9,mem(2):1")}
	if !slices.EqualFunc(l, want, sameEvent) {
		t.Error(l)
	}
	right(t, got)
}

// The example: of two roles, the one that has nothing yet gets everything.
func TestExample(t *testing.T) {
	b := sample()
	b.Frames = append(b.Frames, api.Frame{ID: 8, Role: 9, Weight: 1, Up: true})
	got, l := Run(b, 1)
	if !slices.EqualFunc(l, []api.Event{ev(8, 4, 1, "cpus:40")}, sameEvent) || !view.Quiet(got, 1) {
		t.Error(l)
	}
}

package view

import (
	"slices"
	"testing"

	"manciple/api"
	"manciple/book"
	"manciple/vec"
)

func v(s string) []api.Part {
	l, ok := vec.Parse(s)
	if !ok {
		panic(s)
	}
	return l
}

// sample is a valid book with an agent of whose resources some are reserved.
func sample() api.Book {
	return api.Book{
		Config: api.Config{Horizon: 100, Most: 50000, IDs: 20, Cap: 10},
		Frames: []api.Frame{
			{ID: 1, Role: 2, Weight: 1, Up: true},
			{ID: 2, Role: 2, Weight: 1, Up: true, Quiet: true},
			{ID: 3, Role: 2, Weight: 1},
			{ID: 4, Role: 5, Weight: 1, Up: true},
			{ID: 5, Role: 9, Weight: 1, Up: true},
		},
		Agents: []api.Agent{
			{ID: 1, Total: v("cpus:1,cpus(2):3,cpus(5):1"), Free: v("cpus:1,cpus(2):3,cpus(5):1")},
			{ID: 2, Total: v("mem:4"), Free: v("mem:4")},
			{ID: 3, Total: v("mem(2):4"), Free: v("mem(2):4")},
			{ID: 4, Total: v("mem(7):4"), Free: v("mem(7):4")},
		},
	}
}

func right(t *testing.T, b api.Book) {
	t.Helper()
	if rule, ok := book.Right(b); !ok {
		t.Fatal("the book is not valid", rule)
	}
}

// P17.1
func TestV(t *testing.T) {
	b := sample()
	right(t, b)
	for _, c := range []struct {
		frame, agent int64
		pass         int
		want         string
	}{
		{1, 1, 1, "cpus(2):3"}, {1, 1, 2, "cpus:1,cpus(2):3"}, {3, 1, 2, "cpus:1,cpus(2):3"}, {4, 1, 1, "cpus(5):1"},
		{5, 1, 1, "-"}, {5, 1, 2, "cpus:1"}, {1, 2, 1, "-"}, {1, 2, 2, "mem:4"}, {1, 4, 2, "-"},
		{1, 1, 0, "-"}, {1, 1, 3, "-"}, {1, 1, -1, "-"}, {6, 1, 1, "-"}, {0, 1, 2, "-"}, {1, 5, 2, "-"},
	} {
		if got := V(b, c.frame, c.agent, c.pass); vec.Text(got) != c.want {
			t.Error(c, vec.Text(got))
		}
	}
	V(b, 1, 1, 2)[0].Amount = 77
	if b.Agents[0].Free[0].Amount != 1000 {
		t.Error("shared")
	}
}

// P17.1
func TestBig(t *testing.T) {
	c := sample().Config
	if Big(c, nil) || !Big(c, v("cpus:0.001")) {
		t.Error("without a minimum")
	}
	c.Min = [4]int64{1000, 2000, 0, 0}
	for s, want := range map[string]bool{"-": false, "cpus:1,mem:2": true, "cpus:1,mem:1.999": false, "cpus:0.5,cpus(2):0.5,mem(9):2,gpus:1": true, "mem:9": false} {
		if Big(c, v(s)) != want {
			t.Error(s)
		}
	}
}

// P17.1
func TestBlocked(t *testing.T) {
	b := sample()
	b.Filters = []api.Filter{{Frame: 1, Agent: 1, Until: 5, Vec: v("cpus:1,cpus(2):1")}, {Frame: 1, Agent: 1, Until: 6, Vec: v("mem:4")}, {Frame: 4, Agent: 2, Until: 6, Vec: v("mem:4")}}
	right(t, b)
	for _, c := range []struct {
		frame, agent int64
		v            string
		want         bool
	}{
		{1, 1, "cpus:1,cpus(2):1", true}, {1, 1, "cpus(2):0.5", true}, {1, 1, "cpus(2):2", false}, {1, 1, "cpus(3):1", false},
		{1, 1, "mem:3", true}, {1, 1, "cpus:1,mem:1", false}, {1, 2, "mem:3", false}, {4, 2, "mem:3", true}, {2, 1, "cpus:1", false}, {1, 1, "-", true}, {1, 3, "-", false},
	} {
		if got := Blocked(b, c.frame, c.agent, v(c.v)); got != c.want {
			t.Error(c, got)
		}
	}
}

// P17.2
func TestEligibleThoseQuiet(t *testing.T) {
	for _, c := range []struct {
		name   string
		change func(b *api.Book)
		agent  int64
		one    []int64
		two    []int64
	}{
		{"as it is", func(b *api.Book) {}, 1, []int64{1, 4}, []int64{1, 4, 5}},
		{"nothing reserved", func(b *api.Book) {}, 2, nil, []int64{1, 4, 5}},
		{"all reserved", func(b *api.Book) {}, 3, []int64{1}, []int64{1}},
		{"all reserved for nobody", func(b *api.Book) {}, 4, nil, nil},
		{"no such agent", func(b *api.Book) {}, 9, nil, nil},
		{"quiet", func(b *api.Book) { b.Frames[0].Quiet = true }, 1, []int64{4}, []int64{4, 5}},
		{"awake", func(b *api.Book) { b.Frames[1].Quiet = false }, 1, []int64{1, 2, 4}, []int64{1, 2, 4, 5}},
		{"minimum", func(b *api.Book) { b.Config.Min[0] = 2000 }, 1, []int64{1}, []int64{1, 4}},
		{"filter of both passes", func(b *api.Book) {
			b.Filters = []api.Filter{{Frame: 1, Agent: 1, Until: 1, Vec: v("cpus:1,cpus(2):3")}}
		}, 1, []int64{4}, []int64{4, 5}},
		{"filter of pass 1", func(b *api.Book) {
			b.Filters = []api.Filter{{Frame: 1, Agent: 1, Until: 1, Vec: v("cpus(2):3")}}
		}, 1, []int64{4}, []int64{1, 4, 5}},
	} {
		b := sample()
		c.change(&b)
		right(t, b)
		if got := Those(b, c.agent, 1); !slices.Equal(got, c.one) {
			t.Error(c.name, got)
		}
		if got := Those(b, c.agent, 2); !slices.Equal(got, c.two) {
			t.Error(c.name, got)
		}
		if len(Those(b, c.agent, 0))+len(Those(b, c.agent, 3)) > 0 || Eligible(b, 1, c.agent, 0) || Eligible(b, 1, c.agent, 3) {
			t.Error(c.name, "other passes")
		}
		for frame := int64(0); frame < 8; frame++ {
			if Eligible(b, frame, c.agent, 1) != slices.Contains(c.one, frame) || Eligible(b, frame, c.agent, 2) != slices.Contains(c.two, frame) {
				t.Error(c.name, "Eligible", frame)
			}
		}
		if Quiet(b, c.agent) != (len(c.one)+len(c.two) == 0) {
			t.Error(c.name, "Quiet")
		}
	}
}

// P17.2: only pass 1 has somebody.
func TestQuietInOnePass(t *testing.T) {
	b := sample()
	b.Config.Min[1] = 4000
	b.Filters = []api.Filter{{Frame: 1, Agent: 2, Until: 1, Vec: v("mem:4")}, {Frame: 4, Agent: 2, Until: 1, Vec: v("mem:5")}}
	right(t, b)
	if Quiet(b, 2) {
		t.Error("5 is eligible in pass 2")
	}
	b.Frames[4].Quiet = true
	if !Quiet(b, 2) || Quiet(b, 3) {
		t.Error("Quiet")
	}
}

// P17.3
func TestMoreIsFree(t *testing.T) {
	b := sample()
	b.Filters = []api.Filter{{Frame: 1, Agent: 1, Until: 1, Vec: v("cpus:1,cpus(2):4")}}
	if !Blocked(b, 1, 1, V(b, 1, 1, 2)) || !Blocked(b, 1, 1, V(b, 1, 1, 1)) {
		t.Error("what is blocked in pass 2 is blocked in pass 1")
	}
	b.Agents[0].Total, b.Agents[0].Free = v("cpus:1,cpus(2):5"), v("cpus:1,cpus(2):5")
	right(t, b)
	if !Eligible(b, 1, 1, 1) || !Eligible(b, 1, 1, 2) {
		t.Error("more is free")
	}
}

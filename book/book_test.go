package book

import (
	"math"
	"slices"
	"testing"

	"manciple/api"
	"manciple/share"
	"manciple/sums"
	"manciple/vec"
)

func v(s string) []api.Part {
	l, ok := vec.Parse(s)
	if !ok {
		panic(s)
	}
	return l
}

// sample is a valid book with everything in it.
func sample() api.Book {
	return api.Book{
		Config: api.Config{Horizon: 100, Most: 50000, IDs: 20, Life: 10, Cap: 4},
		Now:    5, Last: 9,
		Frames:  []api.Frame{{ID: 1, Role: 2, Weight: 3, Up: true, Time: 4}, {ID: 3, Role: 2, Weight: 3, Time: 4, Until: 9}, {ID: 7, Role: 5, Weight: 1, Up: true, Quiet: true}},
		Agents:  []api.Agent{{ID: 2, Total: v("cpus:9,cpus(2):4,mem:20"), Free: v("cpus:2,mem:8")}, {ID: 4, Total: v("cpus:10,disk(5):6"), Free: v("cpus:8")}},
		Offers:  []api.Offer{{ID: 6, Frame: 1, Agent: 2, Vec: v("cpus:3,cpus(2):1"), Until: 6}, {ID: 9, Frame: 7, Agent: 4, Vec: v("cpus:2,disk(5):6"), Until: 15}},
		Tasks:   []api.Task{{Frame: 1, ID: 8, Agent: 2, Vec: v("cpus:4,cpus(2):2")}, {Frame: 3, ID: 1, Agent: 2, Vec: v("cpus(2):1,mem:12")}},
		Filters: []api.Filter{{Frame: 1, Agent: 2, Until: 6, Vec: v("cpus:1")}, {Frame: 1, Agent: 2, Until: 6, Vec: v("cpus:1,mem:1")}, {Frame: 3, Agent: 4, Until: 2 * api.Top, Vec: v("gpus(9):1")}},
	}
}

// P16.1
func TestRight(t *testing.T) {
	for _, b := range []api.Book{sample(), {Config: sample().Config}} {
		if rule, ok := Right(b); rule != 0 || !ok {
			t.Error(rule, ok)
		}
	}
	if rule, ok := Right(api.Book{}); rule != 1 || ok {
		t.Error(rule, ok)
	}
}

type edit func(b *api.Book)

// broken lists, by rules, changes after which the rule is the first one that does not hold.
var broken = [9][]edit{
	1: {
		func(b *api.Book) { b.Config.Cap = 0 },
		func(b *api.Book) { b.Now = -1 },
		func(b *api.Book) { b.Now = 101 },
		func(b *api.Book) { b.Last = -1 },
		func(b *api.Book) { b.Last = 21 },
		func(b *api.Book) { b.Now, b.Frames[0].Role = -1, 0 },
	},
	2: {
		func(b *api.Book) { b.Frames[0].ID = 0 },
		func(b *api.Book) { b.Frames[2].ID = api.Top + 1 },
		func(b *api.Book) { b.Frames[1].ID = 1 },
		func(b *api.Book) { b.Frames[1].ID = 8 },
		func(b *api.Book) { b.Frames[0].Role = 0 },
		func(b *api.Book) { b.Frames[2].Role = 33 },
		func(b *api.Book) { b.Frames[2].Weight = 0 },
		func(b *api.Book) { b.Frames[2].Weight = 1001 },
		func(b *api.Book) { b.Frames[1].Weight = 4 },
		func(b *api.Book) { b.Frames[1].Time = -1 },
		func(b *api.Book) { b.Frames[1].Time = api.Top + 1 },
		func(b *api.Book) { b.Frames[0].Until = 1 },
		func(b *api.Book) { b.Frames[1].Until = -1 },
		func(b *api.Book) { b.Frames[1].Until = 2*api.Top + 1 },
		func(b *api.Book) {
			b.Frames = append(b.Frames, api.Frame{ID: 8, Role: 1, Weight: 1, Up: true}, api.Frame{ID: 9, Role: 1, Weight: 1, Up: true})
		},
		func(b *api.Book) { b.Frames[0].ID, b.Agents[0].ID = math.MinInt64, 0 },
	},
	3: {
		func(b *api.Book) { b.Agents[0].ID = 0 },
		func(b *api.Book) { b.Agents[1].ID = 2 },
		func(b *api.Book) { b.Agents[1].ID = api.Top + 1 },
		func(b *api.Book) { b.Agents[0].Total = nil },
		func(b *api.Book) { b.Agents[0].Total[0].Amount = 0 },
		func(b *api.Book) { b.Agents[1].Free = []api.Part{{Kind: 4, Amount: 1}} },
		func(b *api.Book) {
			for id := range int64(3) {
				b.Agents = append(b.Agents, api.Agent{ID: 10 + id, Total: v("gpus:1"), Free: v("gpus:1")})
			}
		},
	},
	4: {
		func(b *api.Book) { b.Config.Most = 22999 },
		func(b *api.Book) { b.Agents[1].Total[0].Amount = 37001 },
		func(b *api.Book) {
			b.Agents[0].Total, b.Agents[1].Total = v("mem:9007199254740.992"), v("mem:9007199254740.992")
		},
		func(b *api.Book) { b.Config.Most, b.Offers[0].Frame = 22999, 9 },
	},
	5: {
		func(b *api.Book) { b.Offers[0].ID = 0 },
		func(b *api.Book) { b.Offers[0].ID = 9 },
		func(b *api.Book) { b.Last = 8 },
		func(b *api.Book) { b.Offers[0].Frame = 2 },
		func(b *api.Book) { b.Offers[0].Frame = 3 },
		func(b *api.Book) { b.Offers[0].Agent = 1 },
		func(b *api.Book) { b.Offers[0].Vec = nil },
		func(b *api.Book) { b.Offers[0].Vec[0].Amount = -1 },
		func(b *api.Book) { b.Offers[0].Vec[1].Role = 3 },
		func(b *api.Book) { b.Offers[0].Until = 0 },
		func(b *api.Book) { b.Offers[0].Until = 5 },
		func(b *api.Book) { b.Offers[1].Until = 16 },
		func(b *api.Book) { b.Config.Life = 0 },
		func(b *api.Book) { b.Offers[0].Frame, b.Tasks[0].Frame = 7, 2 },
	},
	6: {
		func(b *api.Book) { b.Tasks[0].ID = 0 },
		func(b *api.Book) { b.Tasks[0].ID = api.Top + 1 },
		func(b *api.Book) { b.Tasks[1].Frame, b.Tasks[1].ID = 1, 8 },
		func(b *api.Book) { b.Tasks[1].Frame = 1 },
		func(b *api.Book) { b.Tasks[1].Frame = 2 },
		func(b *api.Book) { b.Tasks[1].Frame = 7 },
		func(b *api.Book) { b.Tasks[1].Agent = 5 },
		func(b *api.Book) { b.Tasks[1].Vec = nil },
		func(b *api.Book) { b.Tasks[1].Vec[0].Amount = 0 },
		func(b *api.Book) {
			for id := range int64(3) {
				b.Tasks = append(b.Tasks, api.Task{Frame: 7, ID: 1 + id, Agent: 4, Vec: v("cpus:1")})
			}
		},
	},
	7: {
		func(b *api.Book) { b.Filters[0].Frame = 0 },
		func(b *api.Book) { b.Filters[2].Frame = 4 },
		func(b *api.Book) { b.Filters[2].Agent = 5 },
		func(b *api.Book) { b.Filters[0].Until = 5 },
		func(b *api.Book) { b.Filters[2].Until = 2*api.Top + 1 },
		func(b *api.Book) { b.Filters[0].Vec = nil },
		func(b *api.Book) { b.Filters[0].Vec = []api.Part{{Amount: -1}} },
		func(b *api.Book) { b.Filters[1].Vec = v("cpus:1") },
		func(b *api.Book) { b.Filters[1].Vec = v("cpus:0.5") },
		func(b *api.Book) { b.Filters[0].Until = 7 },
		func(b *api.Book) { b.Filters[0].Agent = 4 },
		func(b *api.Book) { b.Filters[0].Frame = 3 },
		func(b *api.Book) {
			b.Filters = append(b.Filters, api.Filter{Frame: 7, Agent: 2, Until: 6, Vec: v("cpus:1")}, api.Filter{Frame: 7, Agent: 2, Until: 7, Vec: v("cpus:1")})
		},
	},
	8: {
		func(b *api.Book) { b.Agents[0].Free = v("cpus:2,mem:7") },
		func(b *api.Book) { b.Agents[0].Free = v("cpus:2,mem:9") },
		func(b *api.Book) { b.Agents[0].Free = v("cpus:2,mem:8,gpus:1") },
		func(b *api.Book) { b.Tasks[0].Agent = 4 },
		func(b *api.Book) { b.Offers = b.Offers[:1] },
		func(b *api.Book) { b.Tasks = nil },
	},
}

// P16.1
func TestBrokenRules(t *testing.T) {
	for rule, l := range broken {
		for i, change := range l {
			b := sample()
			change(&b)
			if got, ok := Right(b); got != rule || ok {
				t.Error(rule, i, got, ok)
			}
		}
	}
}

// P16.1: at the limits
func TestLimitsHold(t *testing.T) {
	for i, change := range []edit{
		func(b *api.Book) { b.Now, b.Config.Horizon = 5, 5 },
		func(b *api.Book) { b.Config.IDs = 9 },
		func(b *api.Book) { b.Config.Most = 23000 },
		func(b *api.Book) { b.Frames[1].Until = 2 * api.Top },
		func(b *api.Book) { b.Frames[1].Until = 0 },
		func(b *api.Book) {
			b.Frames = append(b.Frames, api.Frame{ID: api.Top, Role: 32, Weight: 1000, Up: true, Time: api.Top})
		},
		func(b *api.Book) {
			b.Config.Cap = 3
			b.Agents = append(b.Agents, api.Agent{ID: 5, Total: v("gpus:1"), Free: v("gpus:0.5")})
			b.Tasks = append(b.Tasks, api.Task{Frame: 7, ID: 1, Agent: 5, Vec: v("gpus:0.5")})
		},
		func(b *api.Book) { b.Config.Life, b.Offers[0].Until, b.Offers[1].Until = 0, 0, 0 },
	} {
		b := sample()
		change(&b)
		if rule, ok := Right(b); !ok {
			t.Error(i, rule)
		}
	}
}

// P16.1
func TestCopySame(t *testing.T) {
	b := sample()
	c := Copy(b)
	if !Same(b, c) || !Same(api.Book{}, Copy(api.Book{})) || Same(b, api.Book{}) {
		t.Error("Same")
	}
	if !Same(api.Book{}, api.Book{Frames: []api.Frame{}, Agents: []api.Agent{}, Offers: []api.Offer{}, Tasks: []api.Task{}, Filters: []api.Filter{}}) {
		t.Error("empty lists")
	}
	changes := []edit{
		func(b *api.Book) { b.Config.Min[3] = 1 }, func(b *api.Book) { b.Now = 6 }, func(b *api.Book) { b.Last = 10 },
		func(b *api.Book) { b.Frames[1].Quiet = true }, func(b *api.Book) { b.Frames = b.Frames[:2] },
		func(b *api.Book) { b.Agents[1].ID = 5 }, func(b *api.Book) { b.Agents[1].Total[0].Amount = 1 }, func(b *api.Book) { b.Agents[1].Free[0].Role = 1 },
		func(b *api.Book) { b.Offers[0].Until = 7 }, func(b *api.Book) { b.Offers[0].ID = 7 }, func(b *api.Book) { b.Offers[0].Agent = 7 }, func(b *api.Book) { b.Offers[0].Frame = 7 }, func(b *api.Book) { b.Offers[0].Vec[1].Kind = 7 },
		func(b *api.Book) { b.Tasks[0].ID = 7 }, func(b *api.Book) { b.Tasks[0].Agent = 7 }, func(b *api.Book) { b.Tasks[0].Frame = 7 }, func(b *api.Book) { b.Tasks[0].Vec[1].Kind = 7 },
		func(b *api.Book) { b.Filters[0].Until = 7 }, func(b *api.Book) { b.Filters[0].Agent = 7 }, func(b *api.Book) { b.Filters[0].Frame = 7 }, func(b *api.Book) { b.Filters[0].Vec[0].Kind = 7 },
	}
	for i, change := range changes {
		c := Copy(b)
		change(&c)
		if Same(b, c) || Same(c, b) {
			t.Error("Same", i)
		}
		if !Same(b, sample()) {
			t.Fatal("not a copy", i)
		}
	}
	_ = append(c.Frames[:1], api.Frame{})
	_ = append(c.Filters[0].Vec, api.Part{})
	if !Same(b, sample()) {
		t.Error("shared")
	}
}

// P16.1
func TestOrder(t *testing.T) {
	l := [][]api.Part{
		nil,
		{{Kind: -9, Role: 5, Amount: 5}},
		v("cpus:1"), v("cpus:1,cpus(1):1"), v("cpus:1,mem:1"), v("cpus:2"), v("cpus(1):1"), v("mem:1"),
		{{Kind: 9}}, {{Kind: 9}, {Kind: 1}},
	}
	for i, a := range l {
		for j, b := range l {
			want := 0
			if i < j {
				want = -1
			} else if i > j {
				want = 1
			}
			if Order(a, b) != want {
				t.Error(a, b, Order(a, b))
			}
		}
	}
}

// P16.2
func TestIndices(t *testing.T) {
	b := sample()
	b.Frames = append(b.Frames, b.Frames[1])
	b.Offers = append(b.Offers, b.Offers[0])
	for _, c := range [][2]int{
		{Frame(b, 1), 0}, {Frame(b, 3), 1}, {Frame(b, 2), -1}, {Frame(b, -1), -1},
		{Agent(b, 4), 1}, {Agent(b, 3), -1},
		{Offer(b, 6), 0}, {Offer(b, 9), 1}, {Offer(b, 1), -1},
		{Task(b, 1, 8), 0}, {Task(b, 3, 1), 1}, {Task(b, 1, 1), -1}, {Task(b, 8, 1), -1},
		{Frame(api.Book{}, 0), -1}, {Agent(api.Book{}, 0), -1}, {Offer(api.Book{}, 0), -1}, {Task(api.Book{}, 0, 0), -1},
	} {
		if c[0] != c[1] {
			t.Error(c)
		}
	}
}

// P16.3 and P16.5
func TestSums(t *testing.T) {
	b := sample()
	total := Total(b)
	if total != (sums.Sums{23000, 20000, 6000, 0}) {
		t.Error("Total", total)
	}
	one, three, seven, two := Sum(b, 1), Sum(b, 3), Sum(b, 7), Sum(b, 2)
	if one != (sums.Sums{10000}) || three != (sums.Sums{1000, 12000}) || seven != (sums.Sums{2000, 0, 6000}) || two != (sums.Sums{}) {
		t.Error("Sum", one, three, seven, two)
	}
	role := RoleSum(b, 2)
	if role != (sums.Sums{11000, 12000}) || RoleSum(b, 5) != seven || RoleSum(b, 1) != (sums.Sums{}) {
		t.Error("RoleSum", role)
	}
	if !role.Holds(one) || !role.Holds(three) || !total.Holds(role) {
		t.Error("Holds")
	}
	b.Frames[0].Role, b.Frames[2].Role = 5, 2
	if !slices.Equal(Roles(b), []int{2, 5}) || len(Roles(api.Book{})) > 0 {
		t.Error("Roles", Roles(b))
	}
}

// P16.4
func TestShares(t *testing.T) {
	b := sample()
	of := func(num, den, weight int64) share.Share {
		return share.Share{Part: api.Frac{Num: num, Den: den}, Weight: weight}
	}
	for _, c := range []struct {
		frame int64
		want  share.Share
		ok    bool
	}{{1, of(10000, 23000, 1), true}, {3, of(12000, 20000, 1), true}, {7, of(6000, 6000, 1), true}, {2, share.Share{}, false}} {
		if got, ok := Share(b, c.frame); got != c.want || ok != c.ok {
			t.Error("Share", c, got, ok)
		}
	}
	for _, c := range []struct {
		role int
		want share.Share
		ok   bool
	}{{2, of(12000, 20000, 3), true}, {5, of(6000, 6000, 1), true}, {1, share.Share{}, false}} {
		if got, ok := RoleShare(b, c.role); got != c.want || ok != c.ok {
			t.Error("RoleShare", c, got, ok)
		}
	}
}

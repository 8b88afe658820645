package reason

import (
	"math"
	"slices"
	"testing"

	"manciple/api"
	"manciple/book"
	"manciple/vec"
)

func v(s string) []api.Part {
	l, ok := vec.Parse(s)
	if !ok {
		panic(s)
	}
	return l
}

// sample is a valid book with everything in it.
func sample() api.Book {
	return api.Book{
		Config: api.Config{Horizon: 100, Most: 50000, IDs: 20, Cap: 4},
		Now:    5, Last: 9,
		Frames: []api.Frame{
			{ID: 1, Role: 2, Weight: 3, Up: true, Time: 4},
			{ID: 3, Role: 2, Weight: 3, Time: 4, Until: 9},
			{ID: 7, Role: 5, Weight: 1, Up: true},
		},
		Agents: []api.Agent{
			{ID: 2, Total: v("cpus:9,cpus(2):4,mem:20"), Free: v("cpus:1,mem:8")},
			{ID: 4, Total: v("cpus:10,disk(5):6"), Free: v("cpus:7")},
		},
		Offers: []api.Offer{
			{ID: 5, Frame: 1, Agent: 2, Vec: v("cpus:1")},
			{ID: 6, Frame: 1, Agent: 2, Vec: v("cpus:3,cpus(2):1")},
			{ID: 8, Frame: 1, Agent: 4, Vec: v("cpus:1")},
			{ID: 9, Frame: 7, Agent: 4, Vec: v("cpus:2,disk(5):6")},
		},
		Tasks: []api.Task{
			{Frame: 1, ID: 8, Agent: 2, Vec: v("cpus:4,cpus(2):2")},
			{Frame: 3, ID: 1, Agent: 2, Vec: v("cpus(2):1,mem:12")},
		},
		Filters: []api.Filter{{Frame: 1, Agent: 2, Until: 6, Vec: v("cpus:1")}, {Frame: 3, Agent: 4, Until: 9, Vec: v("gpus(9):1")}},
	}
}

func launch(id int64, s string) api.Op { return api.Op{Kind: api.Launch, ID: id, Vec: v(s)} }

func accept(frame int64, time int64, ids []int64, ops ...api.Op) api.Call {
	return api.Call{Kind: api.Accept, Frame: frame, Time: time, IDs: ids, Ops: ops}
}

func decline(frame int64, time int64, ids ...int64) api.Call {
	return api.Call{Kind: api.Decline, Frame: frame, Time: time, IDs: ids}
}

func subscribe(frame int64, role int, weight int64) api.Call {
	return api.Call{Kind: api.Subscribe, Frame: frame, Role: role, Weight: weight}
}

func register(agent int64, s string) api.Call {
	return api.Call{Kind: api.Register, Agent: agent, Vec: v(s)}
}

type errs = []api.Errno

// check holds all that First and All tell against what is wanted; so all reasons are of one class (P18.3).
func check(t *testing.T, name string, b api.Book, c api.Call, want errs) {
	t.Helper()
	if rule, ok := book.Right(b); !ok {
		t.Fatal(name, "the book is not valid", rule)
	}
	if got := First(b, c); !slices.Equal(got, want) {
		t.Error(name, got, want)
	}
	for class := -1; class <= 5; class++ {
		var some errs
		if len(want) > 0 && Class(want[0]) == class {
			some = want
		}
		if got := All(b, c, class); !slices.Equal(got, some) {
			t.Error(name, class, got)
		}
	}
}

// P18.1
func TestClassNames(t *testing.T) {
	for e, want := range map[api.Errno]int{1: 1, 9: 1, 10: 2, 19: 2, 20: 3, 27: 3, 29: 3, 30: 4, 39: 4, 0: 0, -1: 0, 40: 0, math.MinInt: 0, math.MaxInt: 0} {
		if Class(e) != want {
			t.Error(e, Class(e))
		}
	}
	if !slices.Equal(Names(), []string{"form", "existence", "standing", "quantity"}) {
		t.Error(Names())
	}
	Names()[0] = "x"
	if Names()[0] != "form" {
		t.Error("shared")
	}
}

// P18.2: forms, ahead of all else
func TestForm(t *testing.T) {
	for _, c := range []struct {
		name string
		call api.Call
		want errs
	}{
		{"kind", api.Call{}, errs{api.ErrForm}},
		{"field", api.Call{Kind: api.Tick, Time: -1}, errs{api.ErrForm}},
		{"twice", decline(99, 1, 5, 5), errs{api.ErrTwice}},
		{"both", decline(0, 1, 5, 5), errs{api.ErrForm, api.ErrTwice}},
		{"launches", accept(1, 0, []int64{77}, launch(8, "cpus:1"), launch(8, "cpus:1")), errs{api.ErrTwice}},
	} {
		check(t, c.name, sample(), c.call, c.want)
	}
}

// P18.2: what does not exist, for each kind
func TestExistence(t *testing.T) {
	all := api.Call{Frame: 2, Agent: 3, ID: 3, Role: 2, Weight: 3, Time: 1, IDs: []int64{5, 3}, Vec: v("cpus:1")}
	want := map[int]errs{
		api.Lose: {api.ErrAgent}, api.Allocate: {api.ErrAgent},
		api.Disconnect: {api.ErrFrame}, api.Teardown: {api.ErrFrame}, api.Revive: {api.ErrFrame}, api.Suppress: {api.ErrFrame},
		api.Accept: {api.ErrFrame, api.ErrOffer}, api.Decline: {api.ErrFrame, api.ErrOffer}, api.Rescind: {api.ErrOffer},
		api.Kill: {api.ErrFrame, api.ErrTask}, api.Finish: {api.ErrFrame, api.ErrTask},
	}
	for kind := 1; kind <= 15; kind++ {
		c := all
		c.Kind = kind
		check(t, "nothing exists", sample(), c, want[kind])
	}
	for _, kind := range []int{api.Kill, api.Finish} {
		check(t, "another framework's task", sample(), api.Call{Kind: kind, Frame: 7, ID: 8}, errs{api.ErrTask})
		check(t, "no framework", sample(), api.Call{Kind: kind, Frame: 2, ID: 8}, errs{api.ErrFrame, api.ErrTask})
	}
	check(t, "no framework", sample(), decline(2, 0, 5), errs{api.ErrFrame})
	check(t, "no framework", sample(), accept(2, 0, []int64{5}), errs{api.ErrFrame})
	check(t, "no offer", sample(), decline(1, 0, 5, 7), errs{api.ErrOffer})
	check(t, "the framework is not up", sample(), accept(3, 0, []int64{7}), errs{api.ErrOffer})
}

// P18.2: how things stand
func TestStanding(t *testing.T) {
	for _, c := range []struct {
		name string
		call api.Call
		want errs
	}{
		{"the same total", register(2, "cpus:9,cpus(2):4,mem:20"), nil},
		{"another total", register(2, "cpus:13,mem:20"), errs{api.ErrTotals}},
		{"another total, too great", register(2, "cpus:1300"), errs{api.ErrTotals}},
		{"again", subscribe(1, 2, 3), nil},
		{"again, who is away", subscribe(3, 2, 3), nil},
		{"another role", subscribe(1, 3, 3), errs{api.ErrRole}},
		{"another weight", subscribe(1, 2, 4), errs{api.ErrWeight}},
		{"a new one with another weight", subscribe(4, 5, 2), errs{api.ErrWeight}},
		{"a role of another weight", subscribe(1, 5, 3), errs{api.ErrRole, api.ErrWeight}},
		{"disconnect", api.Call{Kind: api.Disconnect, Frame: 3}, errs{api.ErrGone}},
		{"revive", api.Call{Kind: api.Revive, Frame: 3}, errs{api.ErrGone}},
		{"suppress", api.Call{Kind: api.Suppress, Frame: 3}, errs{api.ErrGone}},
		{"kill", api.Call{Kind: api.Kill, Frame: 3, ID: 1}, errs{api.ErrGone}},
		{"kill the first task", api.Call{Kind: api.Kill, Frame: 1, ID: 8}, nil},
		{"finish", api.Call{Kind: api.Finish, Frame: 3, ID: 1}, nil},
		{"teardown", api.Call{Kind: api.Teardown, Frame: 3}, nil},
		{"decline", decline(3, 0, 5), errs{api.ErrGone, api.ErrOwner}},
		{"accept", accept(3, 0, []int64{5}), errs{api.ErrGone, api.ErrOwner}},
		{"of two agents", accept(1, 0, []int64{5, 8}), errs{api.ErrSpan}},
		{"declined of two agents", decline(1, 0, 5, 8), nil},
		{"declined of two owners", decline(1, 0, 5, 9), errs{api.ErrOwner}},
		{"of two owners", accept(1, 0, []int64{8, 9}), errs{api.ErrOwner}},
		{"of two of each", accept(1, 0, []int64{5, 9}), errs{api.ErrOwner, api.ErrSpan}},
		{"live", accept(1, 0, []int64{5}, launch(8, "cpus:1")), errs{api.ErrLive}},
		{"live, of another one", accept(1, 0, []int64{5}, launch(1, "cpus:1")), nil},
		{"no launch", accept(1, 0, []int64{5}, api.Op{Kind: api.Reserve, ID: 8, Vec: v("cpus:1")}), nil},
		{"foreign", accept(1, 0, []int64{5}, launch(9, "cpus(5):1")), errs{api.ErrForeign}},
		{"foreign and short", accept(1, 0, []int64{5}, launch(9, "cpus:100"), launch(8, "cpus(5):1")), errs{api.ErrLive, api.ErrForeign}},
		{"all", accept(3, 0, []int64{5, 9}, launch(1, "disk(5):1")), errs{api.ErrGone, api.ErrOwner, api.ErrSpan, api.ErrLive, api.ErrForeign}},
		{"rescind", api.Call{Kind: api.Rescind, ID: 9}, nil},
	} {
		check(t, c.name, sample(), c.call, c.want)
	}
}

// full is a book with Cap of everything.
func full() api.Book {
	b := sample()
	b.Config.Cap = 3
	b.Agents = append(b.Agents, api.Agent{ID: 9, Total: v("gpus:1"), Free: v("gpus:1")})
	b.Filters = append(b.Filters, api.Filter{Frame: 7, Agent: 9, Until: 6, Vec: v("gpus:1")})
	return b
}

// P18.2: how much there is
func TestQuantity(t *testing.T) {
	tick := func(n int64) api.Call { return api.Call{Kind: api.Tick, Time: n} }
	both := []int64{5, 6}
	for _, c := range []struct {
		name string
		b    api.Book
		call api.Call
		want errs
	}{
		{"most", sample(), register(3, "cpus:20,cpus(9):7,mem:30,gpus:50"), nil},
		{"above most", sample(), register(3, "cpus:20,cpus(9):7.001"), errs{api.ErrMost}},
		{"far above most", sample(), register(3, "cpus:9007199254740.992"), errs{api.ErrMost}},
		{"agents", full(), register(3, "cpus:1"), errs{api.ErrCap}},
		{"agents and most", full(), register(3, "mem:100"), errs{api.ErrMost, api.ErrCap}},
		{"an old agent", full(), register(9, "gpus:1"), nil},
		{"frameworks", full(), subscribe(2, 2, 3), errs{api.ErrCap}},
		{"frameworks", sample(), subscribe(2, 2, 3), nil},
		{"an old framework", full(), subscribe(3, 2, 3), nil},
		{"all of two offers", sample(), accept(1, 5, both, launch(9, "cpus:4,cpus(2):1")), nil},
		{"short", sample(), accept(1, 5, both, launch(9, "cpus:4,cpus(2):1"), launch(10, "cpus:0.001")), errs{api.ErrShort}},
		{"one task", full(), accept(1, 0, both, launch(9, "cpus:1")), nil},
		{"two tasks", full(), accept(1, 0, both, launch(9, "cpus:1"), launch(10, "cpus:1")), errs{api.ErrCap}},
		{"two tasks, short", full(), accept(1, 0, both, launch(9, "cpus:1"), launch(10, "cpus:9")), errs{api.ErrShort, api.ErrCap}},
		{"a filter", full(), accept(1, 1, both, launch(9, "cpus:1")), errs{api.ErrCap}},
		{"a filter if it were not short", full(), accept(1, 1, both, launch(9, "cpus:8")), errs{api.ErrShort}},
		{"no filter", full(), accept(1, 1, both, launch(9, "cpus:4,cpus(2):1")), nil},
		{"a filter at the cap", sample(), accept(1, 1, both), nil},
		{"declined", full(), decline(1, 0, 5), nil},
		{"declined for some time", full(), decline(1, 1, 5), errs{api.ErrCap}},
		{"two filters", sample(), decline(1, 1, 5, 6), nil},
		{"three filters", sample(), decline(1, 1, 5, 6, 8), errs{api.ErrCap}},
		{"horizon", sample(), tick(95), nil},
		{"past the horizon", sample(), tick(96), errs{api.ErrHorizon}},
		{"far past the horizon", sample(), tick(api.Top), errs{api.ErrHorizon}},
	} {
		check(t, c.name, c.b, c.call, c.want)
	}
}

// P18.2: numbers for offers; the roles needed are 3.
func TestIDs(t *testing.T) {
	allocate, all := api.Call{Kind: api.Allocate, Agent: 2}, api.Call{Kind: api.All}
	for ids, want := range map[int64][2]errs{15: {nil, nil}, 14: {nil, {api.ErrIDs}}, 12: {nil, {api.ErrIDs}}, 11: {{api.ErrIDs}, {api.ErrIDs}}} {
		b := sample()
		b.Config.IDs = ids
		check(t, "allocate", b, allocate, want[0])
		check(t, "all", b, all, want[1])
	}
	none := api.Book{Config: sample().Config}
	none.Config.IDs = 0
	check(t, "no agents", none, all, nil)
	none.Agents = []api.Agent{{ID: 2, Total: v("cpus:1"), Free: v("cpus:1")}}
	check(t, "no frameworks", none, all, errs{api.ErrIDs})
	check(t, "no frameworks", none, allocate, errs{api.ErrIDs})
}

// Rule 4: what is looked at stays as it is.
func TestArgumentsStay(t *testing.T) {
	b, c := sample(), accept(1, 5, []int64{6, 5}, launch(9, "cpus:4,cpus(2):1"))
	First(b, c)
	if !book.Same(b, sample()) || c.IDs[0] != 6 || !vec.Same(c.Ops[0].Vec, v("cpus:4,cpus(2):1")) {
		t.Error("changed")
	}
}

package offers

import (
	"math"
	"slices"
	"testing"

	"manciple/api"
	"manciple/sums"
	"manciple/vec"
)

func v(s string) []api.Part {
	l, ok := vec.Parse(s)
	if !ok {
		panic(s)
	}
	return l
}

func same(a, b api.Offer) bool {
	return a.ID == b.ID && a.Frame == b.Frame && a.Agent == b.Agent && a.Until == b.Until && vec.Same(a.Vec, b.Vec)
}

func issue(t *testing.T, ta *Table, frame, agent int64, s string, until, want int64) {
	t.Helper()
	if id, err := ta.Issue(frame, agent, v(s), until); id != want || err != api.OK {
		t.Error("Issue", id, err)
	}
}

// P24.1: the example, and the end of the numbers
func TestIssueClose(t *testing.T) {
	ta := New(3)
	issue(t, ta, 7, 8, "cpus:1", 0, 1)
	issue(t, ta, math.MaxInt64, 1, "cpus:1,mem(4):2", math.MaxInt64, 2)
	want := api.Offer{ID: 2, Frame: math.MaxInt64, Agent: 1, Vec: v("cpus:1,mem(4):2"), Until: math.MaxInt64}
	if o, ok := ta.Get(2); !ok || !same(o, want) {
		t.Error(o, ok)
	}
	if o, ok := ta.Close(2); !ok || !same(o, want) {
		t.Error(o, ok)
	}
	for _, id := range []int64{2, 3, 0, -1} {
		o, ok := ta.Close(id)
		p, has := ta.Get(id)
		if ok || has || !same(o, api.Offer{}) || !same(p, api.Offer{}) {
			t.Error(id, o, p)
		}
	}
	issue(t, ta, 7, 8, "cpus:1", 0, 3)
	if id, err := ta.Issue(7, 8, v("cpus:1"), 0); id != 0 || err != api.ErrIDs || ta.Last() != 3 {
		t.Error(id, err)
	}
	if id, err := ta.Issue(7, 8, nil, 0); id != 0 || err != api.ErrArg {
		t.Error(id, err)
	}
	ta.Close(3)
	if _, err := ta.Issue(7, 8, v("cpus:1"), 0); err != api.ErrIDs {
		t.Error("a number was assigned again")
	}
}

// P24.1
func TestErrors(t *testing.T) {
	if New(-1) != nil || New(api.Top+1) != nil || New(math.MinInt64) != nil || New(api.Top) == nil {
		t.Error("New")
	}
	if _, err := New(0).Issue(1, 1, v("cpus:1"), 0); err != api.ErrIDs {
		t.Error(err)
	}
	ta := New(9)
	for _, c := range []struct {
		frame, agent int64
		v            []api.Part
		until        int64
	}{
		{0, 1, v("cpus:1"), 0}, {-1, 1, v("cpus:1"), 0}, {1, 0, v("cpus:1"), 0}, {1, math.MinInt64, v("cpus:1"), 0}, {1, 1, nil, 0}, {1, 1, v("cpus:1"), -1},
		{1, 1, []api.Part{{Amount: 0}}, 0}, {1, 1, []api.Part{{Kind: 1, Amount: 1}, {Amount: 1}}, 0}, {1, 1, []api.Part{{Role: 33, Amount: 1}}, 0},
	} {
		if id, err := ta.Issue(c.frame, c.agent, c.v, c.until); id != 0 || err != api.ErrArg || ta.Last() != 0 || len(ta.All()) > 0 {
			t.Error(c, id, err)
		}
	}
}

// P24.2 and P24.4
func TestLists(t *testing.T) {
	ta := New(1000)
	for i := range int64(200) {
		issue(t, ta, 1+i%3, 1+i%5, "cpus:1,cpus(2):2,gpus:3", i, i+1)
	}
	var all, of, on []int64
	for id := int64(1); id <= 200; id++ {
		if id%7 == 0 || id%3 == 0 {
			ta.Close(id)
			continue
		}
		all = append(all, id)
		if (id-1)%3 == 1 {
			of = append(of, id)
		}
		if (id-1)%5 == 4 {
			on = append(on, id)
		}
	}
	var got []int64
	for _, o := range ta.All() {
		got = append(got, o.ID)
		o.Vec[0].Amount = 77
	}
	if !slices.Equal(got, all) || !slices.Equal(ta.Of(2), of) || !slices.Equal(ta.On(5), on) || ta.Last() != 200 {
		t.Error(got, ta.Of(2), ta.On(5), ta.Last())
	}
	n := int64(len(of)) * 3000
	if ta.Sum(2) != (sums.Sums{n, 0, 0, n}) || ta.Sum(3) != (sums.Sums{}) || ta.Sum(9) != (sums.Sums{}) {
		t.Error(ta.Sum(2), ta.Sum(3))
	}
	if len(ta.Of(3))+len(ta.Of(0))+len(ta.On(6)) > 0 {
		t.Error("there are none")
	}
}

// P24.2: sums that are too great
func TestSumTooGreat(t *testing.T) {
	ta := New(1000)
	for i := range int64(128) {
		issue(t, ta, 1, 1, "cpus:1,mem:9007199254740.992", 0, i+1)
	}
	if ta.Sum(1) != (sums.Sums{128000, 1 << 60}) {
		t.Error(ta.Sum(1))
	}
	issue(t, ta, 1, 1, "mem:0.001", 0, 129)
	if ta.Sum(1) != (sums.Sums{}) {
		t.Error(ta.Sum(1))
	}
}

// Rule 4: arguments are not kept.
func TestArguments(t *testing.T) {
	ta := New(9)
	x := v("cpus:1")
	ta.Issue(1, 1, x, 0)
	x[0].Amount = 9
	o, _ := ta.Get(1)
	o.Vec[0].Amount = 8
	if o, _ := ta.Get(1); o.Vec[0].Amount != 1000 {
		t.Error(o)
	}
}

// P24.3
func TestNil(t *testing.T) {
	for _, ta := range []*Table{nil, {}} {
		id, err := ta.Issue(0, 0, nil, -1)
		o, ok := ta.Close(1)
		p, has := ta.Get(1)
		if id != 0 || err != api.ErrNil || ok || has || !same(o, api.Offer{}) || !same(p, api.Offer{}) {
			t.Error(id, err, o, p)
		}
		if len(ta.All())+len(ta.Of(0))+len(ta.On(0)) > 0 || ta.Last() != 0 || ta.Sum(0) != (sums.Sums{}) {
			t.Error("something is there")
		}
	}
}

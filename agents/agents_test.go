package agents

import (
	"math"
	"slices"
	"testing"

	"manciple/api"
	"manciple/sums"
	"manciple/vec"
)

func v(s string) []api.Part {
	l, ok := vec.Parse(s)
	if !ok {
		panic(s)
	}
	return l
}

func bad() [][]api.Part {
	return [][]api.Part{{{Amount: 0}}, {{Amount: -1}}, {{Kind: 4, Amount: 1}}, {{Role: 33, Amount: 1}}, {{Kind: 1, Amount: 1}, {Amount: 1}}}
}

// expect holds an agent against its Total and Free; "" for none.
func expect(t *testing.T, ta *Table, id int64, total, free string) {
	t.Helper()
	a, ok := ta.Get(id)
	if ok != (total != "") || ok && (a.ID != id || vec.Text(a.Total) != total || vec.Text(a.Free) != free) {
		t.Error(id, a, ok)
	}
	if !ok && (a.ID != 0 || len(a.Total)+len(a.Free) > 0) {
		t.Error("not zero", a)
	}
}

// P22.1
func TestNewRegisterLose(t *testing.T) {
	if New(0, 1) != nil || New(-1, 1) != nil || New(1, 0) != nil || New(1, -1) != nil || New(1, api.Top+1) != nil || New(1, api.Top) == nil || New(1, 1) == nil {
		t.Error("New")
	}
	ta := New(2, 5000)
	for _, c := range []struct {
		id   int64
		v    []api.Part
		made bool
		err  api.Errno
	}{
		{0, v("cpus:1"), false, api.ErrArg}, {-1, v("cpus:1"), false, api.ErrArg}, {math.MinInt64, v("cpus:1"), false, api.ErrArg},
		{1, nil, false, api.ErrArg},
		{1, v("cpus:6"), false, api.ErrMost},
		{1, v("cpus:2,cpus(1):3"), true, api.OK},
		{1, v("cpus:2,cpus(1):3"), false, api.OK},
		{1, v("cpus:5"), false, api.ErrTotals},
		{1, v("cpus:9"), false, api.ErrTotals},
		{2, v("cpus:0.001"), false, api.ErrMost},
		{2, v("mem:5"), true, api.OK},
		{3, v("gpus:5"), false, api.ErrCap},
		{3, v("gpus:5.001"), false, api.ErrMost},
		{3, v("mem:9007199254740.992"), false, api.ErrMost},
		{2, v("mem:5"), false, api.OK},
	} {
		if made, err := ta.Register(c.id, c.v); made != c.made || err != c.err {
			t.Error(c, made, err)
		}
	}
	for _, w := range bad() {
		for id := range int64(3) {
			if made, err := ta.Register(id, w); made || err != api.ErrArg {
				t.Error(w, made, err)
			}
		}
	}
	expect(t, ta, 1, "cpus:2,cpus(1):3", "cpus:2,cpus(1):3")
	expect(t, ta, 3, "", "")
	if ta.Lose(3) || !ta.Lose(1) || ta.Lose(1) {
		t.Error("Lose")
	}
	expect(t, ta, 1, "", "")
	if made, err := ta.Register(3, v("cpus:5")); !made || err != api.OK {
		t.Error("there is room again", err)
	}
}

// P22.2 and P22.5
func TestTakeGive(t *testing.T) {
	ta := New(9, api.Top)
	ta.Register(1, v("cpus:4,mem(2):2"))
	for _, c := range []struct {
		do   func(int64, []api.Part) api.Errno
		id   int64
		v    []api.Part
		err  api.Errno
		free string
	}{
		{ta.Take, 2, bad()[0], api.ErrNone, "cpus:4,mem(2):2"},
		{ta.Give, 2, bad()[0], api.ErrNone, "cpus:4,mem(2):2"},
		{ta.Take, 1, v("cpus:4.001"), api.ErrShort, "cpus:4,mem(2):2"},
		{ta.Take, 1, v("mem:1"), api.ErrShort, "cpus:4,mem(2):2"},
		{ta.Take, 1, bad()[1], api.ErrShort, "cpus:4,mem(2):2"},
		{ta.Take, 1, nil, api.OK, "cpus:4,mem(2):2"},
		{ta.Give, 1, nil, api.OK, "cpus:4,mem(2):2"},
		{ta.Give, 1, v("cpus:0.001"), api.ErrMost, "cpus:4,mem(2):2"},
		{ta.Take, 1, v("cpus:3,mem(2):2"), api.OK, "cpus:1"},
		{ta.Give, 1, v("cpus:4"), api.ErrMost, "cpus:1"},
		{ta.Give, 1, v("mem:1"), api.ErrMost, "cpus:1"},
		{ta.Give, 1, bad()[0], api.ErrMost, "cpus:1"},
		{ta.Give, 1, v("cpus:9007199254740.992"), api.ErrMost, "cpus:1"},
		{ta.Give, 1, v("cpus:3,mem(2):2"), api.OK, "cpus:4,mem(2):2"},
	} {
		if err := c.do(c.id, c.v); err != c.err {
			t.Error(c.v, err, c.err)
		}
		expect(t, ta, 1, "cpus:4,mem(2):2", c.free)
	}
}

// P22.2
func TestTurn(t *testing.T) {
	ta := New(9, api.Top)
	ta.Register(1, v("cpus:4,mem:2"))
	ta.Take(1, v("cpus:3"))
	for _, c := range []struct {
		id          int64
		total, more []api.Part
		err         api.Errno
	}{
		{2, nil, nil, api.ErrNone},
		{1, nil, nil, api.ErrArg},
		{1, bad()[4], nil, api.ErrArg},
		{1, v("cpus:4,mem:2.001"), nil, api.ErrArg},
		{1, v("cpus:3,mem:3"), nil, api.ErrArg},
		{1, v("cpus:4,mem:2"), bad()[0], api.ErrArg},
		{1, v("cpus:4,mem:2"), v("cpus:3.001"), api.ErrArg},
		{1, v("cpus:0.5,cpus(1):3.5,mem:2"), nil, api.ErrArg},
		{1, v("cpus:1,cpus(1):3,mem:2"), v("cpus:1"), api.ErrArg},
	} {
		if err := ta.Turn(c.id, c.total, c.more); err != c.err {
			t.Error(c, err)
		}
		expect(t, ta, 1, "cpus:4,mem:2", "cpus:1,mem:2")
	}
	if err := ta.Turn(1, v("cpus:1,cpus(1):3,mem:2"), v("cpus(1):2")); err != api.OK {
		t.Error(err)
	}
	expect(t, ta, 1, "cpus:1,cpus(1):3,mem:2", "cpus:1,cpus(1):2,mem:2")
}

// P22.3 and P22.5
func TestAllSums(t *testing.T) {
	ta := New(9, api.Top)
	for _, id := range []int64{5, api.Top, 2, 9, 1} {
		ta.Register(id, v("cpus:1,mem(3):2"))
	}
	ta.Take(9, v("mem(3):1"))
	ta.Lose(2)
	var ids []int64
	for _, a := range ta.All() {
		ids = append(ids, a.ID)
		a.Total[0].Amount, a.Free[0].Amount = 77, 88
	}
	if !slices.Equal(ids, []int64{1, 5, 9, api.Top}) {
		t.Error(ids)
	}
	if ta.Sum() != (sums.Sums{4000, 8000}) || ta.Free() != (sums.Sums{4000, 7000}) {
		t.Error(ta.Sum(), ta.Free())
	}
	expect(t, ta, 9, "cpus:1,mem(3):2", "cpus:1,mem(3):1")
}

// Rule 4: arguments are not kept.
func TestArguments(t *testing.T) {
	ta := New(9, api.Top)
	total := v("cpus:4")
	ta.Register(1, total)
	total[0].Amount = 9
	expect(t, ta, 1, "cpus:4", "cpus:4")
	turned := v("cpus(1):4")
	ta.Take(1, v("cpus:4"))
	ta.Turn(1, turned, nil)
	turned[0].Amount = 9
	expect(t, ta, 1, "cpus(1):4", "-")
}

// P22.4
func TestNil(t *testing.T) {
	for _, ta := range []*Table{nil, {}} {
		made, err := ta.Register(0, nil)
		for _, e := range []api.Errno{err, ta.Take(1, nil), ta.Give(1, nil), ta.Turn(1, nil, nil)} {
			if e != api.ErrNil {
				t.Error(e)
			}
		}
		if made || ta.Lose(1) || len(ta.All()) > 0 || ta.Sum() != (sums.Sums{}) || ta.Free() != (sums.Sums{}) {
			t.Error("something is there")
		}
		expect(t, ta, 1, "", "")
	}
}

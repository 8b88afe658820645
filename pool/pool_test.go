package pool

import (
	"math"
	"testing"

	"manciple/api"
	"manciple/vec"
)

func v(t *testing.T, s string) []api.Part {
	t.Helper()
	l, ok := vec.Parse(s)
	if !ok {
		t.Fatal(s)
	}
	return l
}

func p(kind, role int, amount int64) []api.Part {
	return []api.Part{{Kind: kind, Role: role, Amount: amount}}
}

func launch(v []api.Part) api.Op    { return api.Op{Kind: api.Launch, ID: 7, Vec: v} }
func reserve(v []api.Part) api.Op   { return api.Op{Kind: api.Reserve, ID: 7, Vec: v} }
func unreserve(v []api.Part) api.Op { return api.Op{Kind: api.Unreserve, ID: 7, Vec: v} }

// P15.1
func TestForeign(t *testing.T) {
	for i, c := range []struct {
		role int
		ops  []api.Op
		want bool
	}{
		{2, nil, false},
		{2, []api.Op{launch(v(t, "cpus:1,cpus(2):1"))}, false},
		{2, []api.Op{launch(v(t, "cpus:1,cpus(3):1"))}, true},
		{2, []api.Op{reserve(v(t, "cpus:1"))}, false},
		{2, []api.Op{reserve(v(t, "cpus:1,mem(2):1"))}, true},
		{2, []api.Op{unreserve(v(t, "cpus(2):1,mem(2):1"))}, false},
		{2, []api.Op{unreserve(v(t, "cpus(2):1,mem:1"))}, true},
		{2, []api.Op{unreserve(v(t, "cpus(3):1"))}, true},
		{2, []api.Op{{Kind: 9, Vec: v(t, "cpus(3):1")}, {Vec: v(t, "cpus(3):1")}}, false},
		{2, []api.Op{launch(nil), reserve(v(t, "cpus:1")), unreserve(v(t, "cpus(1):1"))}, true},
		{-5, []api.Op{launch(p(0, -5, -1)), unreserve(p(9, -5, 0))}, false},
	} {
		if got := Foreign(c.role, c.ops); got != c.want {
			t.Error(i, got)
		}
	}
}

// P15.2
func TestRun(t *testing.T) {
	top := "9007199254740.992"
	for i, c := range []struct {
		pool string
		ops  []api.Op
		want string
		err  api.Errno
	}{
		{"cpus:4", []api.Op{reserve(v(t, "cpus:1")), launch(v(t, "cpus:2,cpus(2):1"))}, "cpus:1", 0},
		{"cpus:4", nil, "cpus:4", 0},
		{"-", nil, "-", 0},
		{"cpus:4", []api.Op{launch(v(t, "cpus:4"))}, "-", 0},
		{"cpus:4", []api.Op{launch(v(t, "cpus:2")), launch(v(t, "cpus:2.001"))}, "", api.ErrShort},
		{"cpus:4", []api.Op{launch(v(t, "cpus(2):1"))}, "", api.ErrShort},
		{"cpus:4", []api.Op{launch(v(t, "cpus(2):1")), reserve(v(t, "cpus:1"))}, "", api.ErrShort},
		{"cpus:4", []api.Op{unreserve(v(t, "cpus(2):1"))}, "", api.ErrShort},
		{"cpus:4", []api.Op{reserve(v(t, "cpus:5"))}, "", api.ErrShort},
		{"cpus:4,cpus(2):1,mem:2", []api.Op{reserve(v(t, "cpus:1,mem:2")), unreserve(v(t, "cpus(2):2"))}, "cpus:5,mem(2):2", 0},
		{"cpus:4,cpus(3):1", []api.Op{reserve(v(t, "cpus:4"))}, "cpus(2):4,cpus(3):1", 0},
		{"cpus:1,cpus(2):" + top, []api.Op{reserve(v(t, "cpus:1"))}, "", api.ErrMost},
		{"cpus:1,cpus(2):" + top, []api.Op{reserve(v(t, "cpus:1")), launch(v(t, "mem:1"))}, "", api.ErrMost},
		{"cpus:1,cpus(2):" + top, []api.Op{launch(v(t, "mem:1")), reserve(v(t, "cpus:1"))}, "", api.ErrShort},
		{"cpus:" + top + ",cpus(2):1", []api.Op{unreserve(v(t, "cpus(2):1"))}, "", api.ErrMost},
		{"cpus:1,cpus(2):" + top, []api.Op{launch(v(t, "cpus(2):1")), reserve(v(t, "cpus:1"))}, "cpus(2):" + top, 0},
	} {
		before := v(t, c.pool)
		got, err := Run(before, 2, c.ops)
		if err != c.err || err == api.OK && vec.Text(got) != c.want || err != api.OK && got != nil {
			t.Error(i, vec.Text(got), err)
		}
		if vec.Text(before) != c.pool {
			t.Error("changed", i)
		}
	}
}

// P15.1 and P15.2: the first and the last role
func TestRoles(t *testing.T) {
	for _, role := range []int{1, api.MaxRole} {
		got, err := Run(v(t, "cpus:4"), role, []api.Op{reserve(v(t, "cpus:4"))})
		if err != api.OK || len(got) != 1 || got[0].Role != role {
			t.Error(role, got, err)
		}
	}
}

// P15.2 and P15.3: the order of errors
func TestErrors(t *testing.T) {
	foreign := launch(v(t, "cpus(3):1"))
	short := launch(v(t, "cpus:9"))
	for i, c := range []struct {
		pool  []api.Part
		role  int
		ops   []api.Op
		run   api.Errno
		moved api.Errno
	}{
		{p(0, 0, 0), 2, []api.Op{foreign}, api.ErrArg, api.ErrArg},
		{p(0, 33, 1), 2, nil, api.ErrArg, api.ErrArg},
		{p(0, 0, 1), 0, nil, api.ErrArg, api.ErrArg},
		{p(0, 0, 1), 33, nil, api.ErrArg, api.ErrArg},
		{p(0, 0, 1), math.MinInt, nil, api.ErrArg, api.ErrArg},
		{p(0, 0, 1), 2, []api.Op{short, foreign, launch(nil)}, api.ErrArg, api.ErrArg},
		{p(0, 0, 1), 2, []api.Op{foreign, reserve(p(0, 0, 0))}, api.ErrArg, api.ErrArg},
		{p(0, 0, 1), 2, []api.Op{foreign, {Kind: 4, Vec: p(0, 0, 1)}}, api.ErrArg, api.ErrArg},
		{p(0, 0, 1), 2, []api.Op{foreign, {Kind: 0, Vec: p(0, 0, 1)}}, api.ErrArg, api.ErrArg},
		{p(0, 0, 1), 2, []api.Op{short, foreign}, api.ErrForeign, api.ErrForeign},
		{p(0, 0, 1), 2, []api.Op{reserve(p(0, 2, 1))}, api.ErrForeign, api.ErrForeign},
		{p(0, 0, 1), 2, []api.Op{short}, api.ErrShort, api.OK},
	} {
		got, err := Run(c.pool, c.role, c.ops)
		if err != c.run || got != nil {
			t.Error("Run", i, got, err)
		}
		got, err = Moved(c.pool, c.role, c.ops)
		if err != c.moved || err != api.OK && got != nil {
			t.Error("Moved", i, got, err)
		}
	}
}

// P15.3
func TestMoved(t *testing.T) {
	for i, c := range []struct {
		total string
		ops   []api.Op
		want  string
		err   api.Errno
	}{
		{"cpus:4", []api.Op{reserve(v(t, "cpus:1")), launch(v(t, "cpus:2,cpus(2):1"))}, "cpus:3,cpus(2):1", 0},
		{"cpus:4", []api.Op{launch(v(t, "cpus:9"))}, "cpus:4", 0},
		{"cpus:4", []api.Op{reserve(v(t, "cpus:9"))}, "", api.ErrShort},
		{"cpus:4,cpus(2):1", []api.Op{launch(v(t, "cpus(2):1")), unreserve(v(t, "cpus(2):1"))}, "cpus:5", 0},
		{"cpus:4,cpus(2):9007199254740.992", []api.Op{reserve(v(t, "cpus:1"))}, "", api.ErrMost},
		{"-", nil, "-", 0},
	} {
		got, err := Moved(v(t, c.total), 2, c.ops)
		if err != c.err || err == api.OK && vec.Text(got) != c.want || err != api.OK && got != nil {
			t.Error(i, vec.Text(got), err)
		}
	}
}

// P15.4
func TestEventsTasks(t *testing.T) {
	ops := []api.Op{launch(v(t, "cpus:1")), {Kind: 5, ID: 1, Vec: v(t, "cpus:1")}, reserve(v(t, "mem:1")), unreserve(v(t, "disk(2):1")), {Kind: api.Launch, ID: 8, Vec: v(t, "gpus:1")}, {}}
	want := []api.Event{
		{Kind: api.EvLaunched, Frame: 3, ID: 7, Agent: 4, Vec: v(t, "cpus:1")},
		{Kind: api.EvReserved, Frame: 3, Agent: 4, Vec: v(t, "mem:1")},
		{Kind: api.EvUnreserved, Frame: 3, Agent: 4, Vec: v(t, "disk(2):1")},
		{Kind: api.EvLaunched, Frame: 3, ID: 8, Agent: 4, Vec: v(t, "gpus:1")},
	}
	got := Events(3, 4, ops)
	if len(got) != len(want) {
		t.Fatal(got)
	}
	for i, e := range got {
		w := want[i]
		if e.Kind != w.Kind || e.Frame != w.Frame || e.ID != w.ID || e.Agent != w.Agent || !vec.Same(e.Vec, w.Vec) {
			t.Error(i, e)
		}
	}
	got[0].Vec[0].Amount = 99
	if ops[0].Vec[0].Amount != 1000 {
		t.Error("shared")
	}
	if Tasks(ops) != 2 || Tasks(nil) != 0 || len(Events(1, 1, nil)) > 0 {
		t.Error("Tasks")
	}
}

// P15.5
func TestRestored(t *testing.T) {
	pool := v(t, "cpus:4,cpus(2):1,mem:3")
	part := v(t, "cpus:2,mem:3")
	turned, _ := vec.Move(part, 0, 2)
	got, err := Run(pool, 2, []api.Op{reserve(part), unreserve(turned)})
	if err != api.OK || !vec.Same(got, pool) {
		t.Error(got, err)
	}
}

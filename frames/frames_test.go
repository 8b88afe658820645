package frames

import (
	"math"
	"slices"
	"testing"

	"manciple/api"
)

// subscribe holds a Subscribe against what is wanted.
func subscribe(t *testing.T, ta *Table, id int64, role int, weight, time int64, made bool, want api.Errno) {
	t.Helper()
	if got, err := ta.Subscribe(id, role, weight, time); got != made || err != want {
		t.Error("Subscribe", id, role, weight, time, got, err)
	}
}

func expect(t *testing.T, ta *Table, id int64, want api.Frame) {
	t.Helper()
	if f, ok := ta.Get(id); f != want || ok != (want != api.Frame{}) {
		t.Error("Get", id, f, ok)
	}
}

// P23.1: the examples
func TestExamples(t *testing.T) {
	ta := New(4)
	subscribe(t, ta, 1, 2, 3, 0, true, api.OK)
	subscribe(t, ta, 5, 2, 4, 0, false, api.ErrWeight)
	if !ta.Drop(1) || ta.Drop(1) {
		t.Error("Drop")
	}
	subscribe(t, ta, 5, 2, 4, 0, true, api.OK)
	expect(t, ta, 1, api.Frame{})
	expect(t, ta, 5, api.Frame{ID: 5, Role: 2, Weight: 4, Up: true})
}

// P23.1
func TestSubscribe(t *testing.T) {
	if New(0) != nil || New(-1) != nil || New(math.MinInt) != nil || New(1) == nil || New(math.MaxInt) == nil {
		t.Error("New")
	}
	ta := New(2)
	for _, id := range []int64{0, -1, math.MinInt64} {
		subscribe(t, ta, id, 1, 1, 0, false, api.ErrArg)
	}
	for _, role := range []int{0, -1, 33, math.MaxInt, math.MinInt} {
		subscribe(t, ta, 1, role, 1, 0, false, api.ErrArg)
	}
	for _, weight := range []int64{0, -1, 1001} {
		subscribe(t, ta, 1, 1, weight, 0, false, api.ErrArg)
	}
	for _, time := range []int64{-1, api.Top + 1} {
		subscribe(t, ta, 1, 1, 1, time, false, api.ErrArg)
	}
	subscribe(t, ta, 1, 32, 1000, api.Top, true, api.OK)
	subscribe(t, ta, 2, 1, 7, 5, true, api.OK)
	subscribe(t, ta, 3, 2, 7, 5, false, api.ErrCap)
	subscribe(t, ta, 3, 1, 6, 5, false, api.ErrWeight)
	subscribe(t, ta, 2, 32, 7, 5, false, api.ErrRole)
	subscribe(t, ta, 2, 32, 0, 5, false, api.ErrArg)
	subscribe(t, ta, 2, 3, 7, 5, false, api.ErrRole)
	subscribe(t, ta, 2, 1, 6, 5, false, api.ErrWeight)
	subscribe(t, ta, 2, 1, 7, 9, false, api.OK)
	expect(t, ta, 1, api.Frame{ID: 1, Role: 32, Weight: 1000, Up: true, Time: api.Top})
	expect(t, ta, 2, api.Frame{ID: 2, Role: 1, Weight: 7, Up: true, Time: 9})
	expect(t, ta, 3, api.Frame{})
}

// P23.2
func TestDisconnectQuiet(t *testing.T) {
	ta := New(3)
	subscribe(t, ta, 1, 2, 3, api.Top, true, api.OK)
	for _, c := range []struct {
		id, now int64
		want    api.Errno
	}{{2, -1, api.ErrNone}, {1, -1, api.ErrArg}, {1, api.Top + 1, api.ErrArg}, {1, api.Top, api.OK}, {1, -1, api.ErrGone}, {1, 0, api.ErrGone}} {
		if err := ta.Disconnect(c.id, c.now); err != c.want {
			t.Error(c, err)
		}
	}
	away := api.Frame{ID: 1, Role: 2, Weight: 3, Time: api.Top, Until: 2 * api.Top}
	expect(t, ta, 1, away)
	subscribe(t, ta, 8, 9, 1, 0, true, api.OK)
	if err := ta.Disconnect(8, 0); err != api.OK {
		t.Error(err)
	}
	expect(t, ta, 8, api.Frame{ID: 8, Role: 9, Weight: 1})
	if ta.Quiet(2, true) != api.ErrNone || ta.Quiet(1, true) != api.OK {
		t.Error("Quiet")
	}
	away.Quiet = true
	expect(t, ta, 1, away)
	subscribe(t, ta, 1, 2, 3, 4, false, api.OK)
	expect(t, ta, 1, api.Frame{ID: 1, Role: 2, Weight: 3, Up: true, Quiet: true, Time: 4})
	ta.Quiet(1, false)
	expect(t, ta, 1, api.Frame{ID: 1, Role: 2, Weight: 3, Up: true, Time: 4})
	ta.Quiet(1, true)
	ta.Drop(1)
	subscribe(t, ta, 1, 2, 3, 4, true, api.OK)
	expect(t, ta, 1, api.Frame{ID: 1, Role: 2, Weight: 3, Up: true, Time: 4})
}

// P23.3 and P23.5
func TestLists(t *testing.T) {
	ta := New(9)
	for i, id := range []int64{8, 3, 9, 1, 7} {
		subscribe(t, ta, id, []int{4, 32, 4, 1, 32}[i], []int64{5, 6, 5, 7, 6}[i], 0, true, api.OK)
	}
	ta.Disconnect(8, 3)
	ta.Drop(1)
	var ids []int64
	for _, f := range ta.All() {
		ids = append(ids, f.ID)
		if weight, ok := ta.Weight(f.Role); weight != f.Weight || !ok {
			t.Error("Weight", f, weight, ok)
		}
	}
	if !slices.Equal(ids, []int64{3, 7, 8, 9}) || ta.Long() != 4 {
		t.Error(ids, ta.Long())
	}
	if !slices.Equal(ta.Of(4), []int64{8, 9}) || !slices.Equal(ta.Of(32), []int64{3, 7}) || !slices.Equal(ta.Roles(), []int{4, 32}) {
		t.Error(ta.Of(4), ta.Of(32), ta.Roles())
	}
	for _, role := range []int{1, 2, 0, -1, 33, math.MinInt, math.MaxInt} {
		if weight, ok := ta.Weight(role); weight != 0 || ok || len(ta.Of(role)) > 0 {
			t.Error(role, weight, ok)
		}
	}
}

// P23.4
func TestNil(t *testing.T) {
	for _, ta := range []*Table{nil, {}} {
		subscribe(t, ta, 0, 0, 0, 0, false, api.ErrNil)
		if ta.Disconnect(1, -1) != api.ErrNil || ta.Quiet(1, true) != api.ErrNil {
			t.Error("not ErrNil")
		}
		weight, ok := ta.Weight(1)
		if ta.Drop(1) || len(ta.All()) > 0 || len(ta.Of(0)) > 0 || weight != 0 || ok || len(ta.Roles()) > 0 || ta.Long() != 0 {
			t.Error("something is there")
		}
		expect(t, ta, 1, api.Frame{})
	}
}

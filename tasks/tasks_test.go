package tasks

import (
	"math"
	"slices"
	"testing"

	"manciple/api"
	"manciple/sums"
	"manciple/vec"
)

func v(s string) []api.Part {
	l, ok := vec.Parse(s)
	if !ok {
		panic(s)
	}
	return l
}

func task(frame, id, agent int64, s string) api.Task {
	return api.Task{Frame: frame, ID: id, Agent: agent, Vec: v(s)}
}

func same(a, b api.Task) bool {
	return a.ID == b.ID && a.Frame == b.Frame && a.Agent == b.Agent && vec.Same(a.Vec, b.Vec)
}

func launch(t *testing.T, ta *Table, x api.Task, want api.Errno) {
	t.Helper()
	if err := ta.Launch(x); err != want {
		t.Error("Launch", x, err)
	}
}

// P25.1 and P25.4
func TestLaunchEnd(t *testing.T) {
	if New(0) != nil || New(-1) != nil || New(math.MinInt) != nil || New(math.MaxInt) == nil || New(1) == nil {
		t.Error("New")
	}
	ta := New(2)
	launch(t, ta, task(1, 7, 9, "cpus:1"), api.OK)
	launch(t, ta, task(2, 7, 9, "cpus:1,cpus(3):2"), api.OK)
	launch(t, ta, task(1, 7, 8, "mem:1"), api.ErrThere)
	launch(t, ta, task(1, 8, 9, "cpus:1"), api.ErrCap)
	for _, x := range []api.Task{
		task(0, 7, 9, "cpus:1"), task(-1, 7, 9, "cpus:1"), task(1, 0, 9, "cpus:1"), task(1, 7, 0, "cpus:1"), task(1, 7, math.MinInt64, "cpus:1"), task(1, 7, 9, "-"),
		{Frame: 1, ID: 7, Agent: 9, Vec: []api.Part{{Amount: -1}}}, {Frame: 1, ID: 7, Agent: 9, Vec: []api.Part{{Kind: 1, Amount: 1}, {Amount: 1}}},
	} {
		launch(t, ta, x, api.ErrArg)
	}
	if x, ok := ta.Get(1, 7); !ok || !same(x, task(1, 7, 9, "cpus:1")) {
		t.Error(x, ok)
	}
	if x, ok := ta.End(1, 7); !ok || !same(x, task(1, 7, 9, "cpus:1")) || ta.Long() != 1 {
		t.Error(x, ok)
	}
	for _, c := range [][2]int64{{1, 7}, {7, 1}, {2, 6}, {3, 7}, {0, 0}} {
		x, ok := ta.End(c[0], c[1])
		y, has := ta.Get(c[0], c[1])
		if ok || has || !same(x, api.Task{}) || !same(y, api.Task{}) {
			t.Error(c, x, y)
		}
	}
	if x, ok := ta.Get(2, 7); !ok || !same(x, task(2, 7, 9, "cpus:1,cpus(3):2")) {
		t.Error(x, ok)
	}
	launch(t, ta, task(1, 7, 8, "mem:1"), api.OK)
}

// P25.2
func TestLists(t *testing.T) {
	ta := New(1000)
	var all, of, on []api.Task
	for frame := int64(1); frame <= 6; frame++ {
		for id := int64(1); id <= 7; id++ {
			x := task(frame, id, 1+(frame+id)%4, "cpus:1,cpus(2):2,gpus:3")
			all = append(all, x)
			if frame == 3 {
				of = append(of, x)
			}
			if x.Agent == 2 {
				on = append(on, x)
			}
		}
	}
	for i := range all {
		launch(t, ta, all[i*11%len(all)], api.OK)
	}
	for i, c := range []struct{ got, want []api.Task }{{ta.All(), all}, {ta.Of(3), of}, {ta.On(2), on}, {ta.Of(9), nil}, {ta.On(9), nil}, {ta.Of(0), nil}} {
		if !slices.EqualFunc(c.got, c.want, same) {
			t.Error(i, c.got)
		}
		for _, x := range c.got {
			x.Vec[0].Amount = 77
		}
	}
	if !slices.EqualFunc(ta.All(), all, same) || ta.Long() != len(all) {
		t.Error("shared")
	}
	if ta.Sum(3) != (sums.Sums{21000, 0, 0, 21000}) || ta.Sum(9) != (sums.Sums{}) {
		t.Error(ta.Sum(3))
	}
}

// P25.2: sums that are too great
func TestSumTooGreat(t *testing.T) {
	ta := New(1000)
	for id := range int64(128) {
		launch(t, ta, task(1, id+1, 1, "cpus:1,mem:9007199254740.992"), api.OK)
	}
	if ta.Sum(1) != (sums.Sums{128000, 1 << 60}) {
		t.Error(ta.Sum(1))
	}
	launch(t, ta, task(1, 500, 1, "mem:0.001"), api.OK)
	if ta.Sum(1) != (sums.Sums{}) {
		t.Error(ta.Sum(1))
	}
}

// Rule 4: arguments are not kept.
func TestArguments(t *testing.T) {
	ta := New(9)
	x := task(1, 1, 1, "cpus:1")
	ta.Launch(x)
	x.Vec[0].Amount = 9
	y, _ := ta.Get(1, 1)
	y.Vec[0].Amount = 8
	if y, _ := ta.Get(1, 1); y.Vec[0].Amount != 1000 {
		t.Error(y)
	}
}

// P25.3
func TestNil(t *testing.T) {
	for _, ta := range []*Table{nil, {}} {
		launch(t, ta, api.Task{}, api.ErrNil)
		x, ok := ta.End(1, 1)
		y, has := ta.Get(1, 1)
		if ok || has || !same(x, api.Task{}) || !same(y, api.Task{}) {
			t.Error(x, y)
		}
		if len(ta.All())+len(ta.Of(0))+len(ta.On(0))+ta.Long() > 0 || ta.Sum(0) != (sums.Sums{}) {
			t.Error("something is there")
		}
	}
}

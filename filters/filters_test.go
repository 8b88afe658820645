package filters

import (
	"math"
	"slices"
	"testing"

	"manciple/api"
	"manciple/vec"
)

func v(s string) []api.Part {
	l, ok := vec.Parse(s)
	if !ok {
		panic(s)
	}
	return l
}

func filter(frame, agent, until int64, s string) api.Filter {
	return api.Filter{Frame: frame, Agent: agent, Until: until, Vec: v(s)}
}

func same(a, b api.Filter) bool {
	return a.Frame == b.Frame && a.Agent == b.Agent && a.Until == b.Until && vec.Same(a.Vec, b.Vec)
}

func put(t *testing.T, ta *Table, f api.Filter, want api.Errno) {
	t.Helper()
	if err := ta.Put(f); err != want {
		t.Error("Put", f, err)
	}
}

// all holds All, Long and Next against what is wanted.
func all(t *testing.T, ta *Table, want ...api.Filter) {
	t.Helper()
	got := ta.All()
	if !slices.EqualFunc(got, want, same) || ta.Long() != len(want) {
		t.Error("All", got, ta.Long())
	}
	least, there := int64(0), false
	for _, f := range want {
		if !there || f.Until < least {
			least, there = f.Until, true
		}
	}
	if next, ok := ta.Next(); next != least || ok != there {
		t.Error("Next", next, ok)
	}
	for _, f := range got {
		f.Vec[0].Amount = 77
	}
}

// some are filters in order.
func some() []api.Filter {
	return []api.Filter{
		filter(1, 2, 3, "cpus:1"), filter(1, 2, 3, "cpus:1,mem:1"), filter(1, 2, 3, "cpus:2"), filter(1, 2, 4, "cpus:1"), filter(1, 3, 1, "cpus:1"),
		filter(2, 1, 9, "gpus(3):1"), filter(2, 2, 1, "cpus:1"), filter(math.MaxInt64, 2, 0, "cpus:1"),
	}
}

// P26.1 and P26.3
func TestPut(t *testing.T) {
	if New(0) != nil || New(-1) != nil || New(math.MinInt) != nil || New(math.MaxInt) == nil || New(1) == nil {
		t.Error("New")
	}
	ta := New(8)
	all(t, ta)
	l := some()
	for i := range l {
		put(t, ta, l[i*3%8], api.OK)
	}
	all(t, ta, l...)
	for _, f := range l {
		put(t, ta, f, api.OK)
	}
	put(t, ta, filter(1, 2, 5, "cpus:1"), api.ErrCap)
	for _, f := range []api.Filter{
		filter(0, 2, 3, "cpus:1"), filter(-1, 2, 3, "cpus:1"), filter(1, 0, 3, "cpus:1"), filter(1, math.MinInt64, 3, "cpus:1"), filter(1, 2, -1, "cpus:1"), filter(1, 2, 3, "-"),
		{Frame: 1, Agent: 2, Until: 3, Vec: []api.Part{{Amount: -1}}}, {Frame: 1, Agent: 2, Until: 3, Vec: []api.Part{{Kind: 1, Amount: 1}, {Amount: 1}}},
	} {
		put(t, ta, f, api.ErrArg)
	}
	all(t, ta, l...)
}

// P26.1 and P26.5
func TestBlocks(t *testing.T) {
	ta := New(9)
	put(t, ta, filter(1, 2, 3, "cpus:2,mem:4"), api.OK)
	check := func(v string, frame, agent int64, want bool) {
		t.Helper()
		x, _ := vec.Parse(v)
		if ta.Blocks(frame, agent, x) != want {
			t.Error(v, frame, agent)
		}
	}
	check("cpus:2,mem:3", 1, 2, true)
	check("mem:3", 1, 2, true)
	check("-", 1, 2, true)
	check("cpus:3", 1, 2, false)
	check("cpus(1):1", 1, 2, false)
	check("cpus:1", 2, 2, false)
	check("cpus:1", 1, 1, false)
	check("-", 1, 1, false)
	put(t, ta, filter(1, 2, 9, "cpus:3"), api.OK)
	check("cpus:3", 1, 2, true)
	check("cpus:2,mem:3", 1, 2, true)
	check("cpus:3,mem:1", 1, 2, false)
	if ta.Blocks(1, 2, []api.Part{{Amount: -1}}) {
		t.Error("not a valid vector")
	}
}

// P26.2
func TestRemove(t *testing.T) {
	for name, c := range map[string]struct {
		do   func(ta *Table) int
		n    int
		gone func(f api.Filter) bool
	}{
		"forget 1":   {func(ta *Table) int { return ta.Forget(1) }, 5, func(f api.Filter) bool { return f.Frame == 1 }},
		"forget 9":   {func(ta *Table) int { return ta.Forget(9) }, 0, func(f api.Filter) bool { return false }},
		"lose 2":     {func(ta *Table) int { return ta.Lose(2) }, 6, func(f api.Filter) bool { return f.Agent == 2 }},
		"lose 4":     {func(ta *Table) int { return ta.Lose(4) }, 0, func(f api.Filter) bool { return false }},
		"expire -1":  {func(ta *Table) int { return ta.Expire(-1) }, 0, func(f api.Filter) bool { return false }},
		"expire 1":   {func(ta *Table) int { return ta.Expire(1) }, 3, func(f api.Filter) bool { return f.Until <= 1 }},
		"expire 3":   {func(ta *Table) int { return ta.Expire(3) }, 6, func(f api.Filter) bool { return f.Until <= 3 }},
		"expire all": {func(ta *Table) int { return ta.Expire(math.MaxInt64) }, 8, func(f api.Filter) bool { return true }},
	} {
		ta := New(8)
		for _, f := range some() {
			put(t, ta, f, api.OK)
		}
		if n := c.do(ta); n != c.n {
			t.Error(name, n)
		}
		rest := slices.DeleteFunc(some(), c.gone)
		all(t, ta, rest...)
		if n := c.do(ta); n != 0 {
			t.Error(name, "again", n)
		}
		for _, f := range some() { // there is room again
			put(t, ta, f, api.OK)
		}
		all(t, ta, some()...)
	}
}

// Rule 4: arguments are not kept.
func TestArguments(t *testing.T) {
	ta := New(9)
	f := filter(1, 1, 1, "cpus:1")
	ta.Put(f)
	f.Vec[0].Amount = 9
	all(t, ta, filter(1, 1, 1, "cpus:1"))
	all(t, ta, filter(1, 1, 1, "cpus:1"))
}

// P26.4
func TestNil(t *testing.T) {
	for _, ta := range []*Table{nil, {}} {
		put(t, ta, api.Filter{}, api.ErrNil)
		if ta.Blocks(0, 0, nil) || ta.Forget(0)+ta.Lose(0)+ta.Expire(0) != 0 {
			t.Error("something is there")
		}
		all(t, ta)
	}
}

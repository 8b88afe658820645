package shape

import (
	"math"
	"slices"
	"testing"

	"manciple/api"
)

func v(role int, amount int64) []api.Part {
	return []api.Part{{Kind: 1, Role: role, Amount: amount}}
}

// table is what the chapter's table states.
var table = []struct {
	name   string
	fields []Field
}{
	{"", nil},
	{"register", []Field{Agent, Vec}},
	{"lose", []Field{Agent}},
	{"subscribe", []Field{Frame, Role, Weight, Time}},
	{"disconnect", []Field{Frame}},
	{"teardown", []Field{Frame}},
	{"accept", []Field{Frame, IDs, Ops, Time}},
	{"decline", []Field{Frame, IDs, Time}},
	{"rescind", []Field{ID}},
	{"revive", []Field{Frame}},
	{"suppress", []Field{Frame}},
	{"kill", []Field{Frame, ID}},
	{"finish", []Field{Frame, ID}},
	{"tick", []Field{Time}},
	{"allocate", []Field{Agent}},
	{"all", nil},
}

// full returns a call all fields of which are valid.
func full(kind int) api.Call {
	return api.Call{Kind: kind, Frame: 1, Agent: 2, ID: 3, Role: 4, Weight: 5, Time: 6, IDs: []int64{7, 8}, Vec: v(0, 9),
		Ops: []api.Op{{Kind: api.Launch, ID: 1, Vec: v(3, 1)}, {Kind: api.Reserve, ID: 1, Vec: v(0, 1)}, {Kind: api.Unreserve, ID: 1, Vec: v(4, 1)}}}
}

// change is a field with a value.
type change struct {
	field Field
	set   func(c *api.Call)
}

func numbers(f Field, at func(c *api.Call) *int64, l ...int64) []change {
	var out []change
	for _, n := range l {
		out = append(out, change{f, func(c *api.Call) { *at(c) = n }})
	}
	return out
}

func many(n int) []int64 {
	var l []int64
	for i := range n {
		l = append(l, int64(i+1))
	}
	return l
}

func ops(l ...api.Op) func(c *api.Call) {
	return func(c *api.Call) { c.Ops = l }
}

func frame(c *api.Call) *int64  { return &c.Frame }
func agent(c *api.Call) *int64  { return &c.Agent }
func id(c *api.Call) *int64     { return &c.ID }
func weight(c *api.Call) *int64 { return &c.Weight }
func time(c *api.Call) *int64   { return &c.Time }

func role(l ...int) []change {
	var out []change
	for _, n := range l {
		out = append(out, change{Role, func(c *api.Call) { c.Role = n }})
	}
	return out
}

func right() []change {
	return slices.Concat(
		numbers(Frame, frame, 1, api.Top), numbers(Agent, agent, 1, api.Top), numbers(ID, id, 1, api.Top),
		numbers(Weight, weight, 1, 1000), numbers(Time, time, 0, api.Top), role(1, 32),
		[]change{
			{IDs, func(c *api.Call) { c.IDs = many(1) }},
			{IDs, func(c *api.Call) { c.IDs = many(32) }},
			{IDs, func(c *api.Call) { c.IDs = []int64{api.Top, 1} }},
			{Vec, func(c *api.Call) { c.Vec = v(32, api.Top) }},
			{Ops, ops()},
			{Ops, ops(slices.Repeat([]api.Op{{Kind: api.Reserve, Vec: v(0, 1)}}, 32)...)},
			{Ops, ops(api.Op{Kind: api.Launch, ID: api.Top, Vec: v(0, 1)}, api.Op{Kind: api.Launch, ID: 1, Vec: v(7, 1)})},
			{Ops, ops(api.Op{Kind: api.Unreserve, ID: -4, Vec: v(9, 1)}, api.Op{Kind: api.Unreserve, ID: -4, Vec: v(32, 1)})},
		})
}

func wrong() []change {
	mixed := []api.Part{{Kind: 0, Role: 0, Amount: 1}, {Kind: 0, Role: 2, Amount: 1}}
	out := []int64{0, -1, api.Top + 1, math.MinInt64, math.MaxInt64}
	return slices.Concat(
		numbers(Frame, frame, out...), numbers(Agent, agent, out...), numbers(ID, id, out...),
		numbers(Weight, weight, 0, -1, 1001), numbers(Time, time, -1, api.Top+1), role(0, 33, -1),
		[]change{
			{IDs, func(c *api.Call) { c.IDs = nil }},
			{IDs, func(c *api.Call) { c.IDs = many(33) }},
			{IDs, func(c *api.Call) { c.IDs = []int64{1, 0} }},
			{IDs, func(c *api.Call) { c.IDs = []int64{api.Top + 1} }},
			{Vec, func(c *api.Call) { c.Vec = nil }},
			{Vec, func(c *api.Call) { c.Vec = v(0, 0) }},
			{Vec, func(c *api.Call) { c.Vec = v(33, 1) }},
			{Ops, ops(slices.Repeat([]api.Op{{Kind: api.Reserve, Vec: v(0, 1)}}, 33)...)},
			{Ops, ops(api.Op{Kind: 0, ID: 1, Vec: v(0, 1)})},
			{Ops, ops(api.Op{Kind: 4, ID: 1, Vec: v(0, 1)})},
			{Ops, ops(api.Op{Kind: api.Launch, ID: 0, Vec: v(0, 1)})},
			{Ops, ops(api.Op{Kind: api.Launch, ID: api.Top + 1, Vec: v(0, 1)})},
			{Ops, ops(api.Op{Kind: api.Launch, ID: 1})},
			{Ops, ops(api.Op{Kind: api.Launch, ID: 1, Vec: v(0, -1)})},
			{Ops, ops(api.Op{Kind: api.Reserve, Vec: v(1, 1)})},
			{Ops, ops(api.Op{Kind: api.Reserve, Vec: mixed})},
			{Ops, ops(api.Op{Kind: api.Reserve})},
			{Ops, ops(api.Op{Kind: api.Unreserve, Vec: v(0, 1)})},
			{Ops, ops(api.Op{Kind: api.Unreserve, Vec: mixed})},
			{Ops, ops(api.Op{Kind: api.Unreserve})},
		})
}

// P14.1 and P14.4
func TestCheckForm(t *testing.T) {
	for kind := 1; kind <= 15; kind++ {
		if got := Check(full(kind)); len(got) > 0 {
			t.Error(kind, got)
		}
		for i, x := range right() {
			c := full(kind)
			x.set(&c)
			if got := Check(c); len(got) > 0 {
				t.Error(kind, i, got)
			}
		}
		for i, x := range wrong() {
			c := full(kind)
			x.set(&c)
			var want []api.Errno
			if slices.Contains(table[kind].fields, x.field) {
				want = []api.Errno{api.ErrForm}
			}
			if got := Check(c); !slices.Equal(got, want) {
				t.Error(kind, i, got, want)
			}
		}
	}
	for _, kind := range []int{0, -1, 16, math.MinInt, math.MaxInt} {
		c := full(kind)
		c.IDs = []int64{1, 1}
		if got := Check(c); !slices.Equal(got, []api.Errno{api.ErrForm}) {
			t.Error(kind, got)
		}
	}
}

// P14.1
func TestCheckTwice(t *testing.T) {
	launch := api.Op{Kind: api.Launch, ID: 5, Vec: v(0, 1)}
	for _, x := range []struct {
		ids  []int64
		ops  []api.Op
		want []api.Errno // of an Accept
		less []api.Errno // of a Decline
	}{
		{[]int64{5, 5}, nil, []api.Errno{api.ErrTwice}, []api.Errno{api.ErrTwice}},
		{[]int64{5, 6, 5}, nil, []api.Errno{api.ErrTwice}, []api.Errno{api.ErrTwice}},
		{[]int64{0, 0}, nil, []api.Errno{api.ErrForm, api.ErrTwice}, []api.Errno{api.ErrForm, api.ErrTwice}},
		{[]int64{5}, []api.Op{launch, launch}, []api.Errno{api.ErrTwice}, nil},
		{[]int64{5}, []api.Op{launch, {Kind: api.Launch, ID: 5}}, []api.Errno{api.ErrForm, api.ErrTwice}, nil},
		{[]int64{5}, []api.Op{launch, {Kind: api.Reserve, ID: 5, Vec: v(0, 1)}, {Kind: api.Reserve, ID: 5, Vec: v(0, 1)}}, nil, nil},
		{append(many(40), 1), nil, []api.Errno{api.ErrForm, api.ErrTwice}, []api.Errno{api.ErrForm, api.ErrTwice}},
	} {
		for kind := 1; kind <= 15; kind++ {
			c := full(kind)
			c.IDs, c.Ops = x.ids, x.ops
			var want []api.Errno
			switch kind {
			case api.Accept:
				want = x.want
			case api.Decline:
				want = x.less
			}
			if got := Check(c); !slices.Equal(got, want) {
				t.Error(kind, x, got)
			}
		}
	}
}

// P14.2
func TestNames(t *testing.T) {
	for kind := 1; kind <= 15; kind++ {
		if Name(kind) != table[kind].name {
			t.Error(kind, Name(kind))
		}
		if got, ok := Kind(table[kind].name); got != kind || !ok {
			t.Error(kind, got, ok)
		}
	}
	for _, kind := range []int{0, -1, 16, math.MinInt, math.MaxInt} {
		if Name(kind) != "" || OpName(kind) != "" {
			t.Error(kind, Name(kind))
		}
	}
	for _, name := range []string{"", "Register", "tick ", "launch"} {
		if got, ok := Kind(name); got != 0 || ok {
			t.Error(name, got, ok)
		}
	}
	if OpName(1) != "launch" || OpName(2) != "reserve" || OpName(3) != "unreserve" || OpName(4) != "" {
		t.Error("OpName")
	}
}

// P14.3
func TestHas(t *testing.T) {
	if Frame != 0 || Agent != 1 || ID != 2 || Role != 3 || Weight != 4 || Time != 5 || IDs != 6 || Vec != 7 || Ops != 8 {
		t.Error("the numbers of the fields")
	}
	for kind := -2; kind < 20; kind++ {
		for f := Field(-2); f < 70; f++ {
			want := kind >= 1 && kind <= 15 && slices.Contains(table[kind].fields, f)
			if Has(kind, f) != want {
				t.Error(kind, f)
			}
		}
		if Has(kind, math.MaxInt) || Has(kind, math.MinInt) {
			t.Error(kind)
		}
	}
}

// P14.3
func TestBare(t *testing.T) {
	for kind := -1; kind <= 17; kind++ {
		c := full(kind)
		want := api.Call{Kind: kind}
		if kind >= 1 && kind <= 15 {
			for _, f := range table[kind].fields {
				switch f {
				case Frame:
					want.Frame = 1
				case Agent:
					want.Agent = 2
				case ID:
					want.ID = 3
				case Role:
					want.Role = 4
				case Weight:
					want.Weight = 5
				case Time:
					want.Time = 6
				case IDs:
					want.IDs = []int64{7, 8}
				case Vec:
					want.Vec = v(0, 9)
				case Ops:
					want.Ops = []api.Op{{Kind: api.Launch, ID: 1, Vec: v(3, 1)}, {Kind: api.Reserve, Vec: v(0, 1)}, {Kind: api.Unreserve, Vec: v(4, 1)}}
				}
			}
		}
		if got := Bare(c); !Same(got, want) {
			t.Error(kind, got, want)
		}
		if !Same(c, full(kind)) {
			t.Error("changed", kind)
		}
	}
	c := full(api.Accept)
	c.Ops[1].Kind = 9
	b := Bare(c)
	if b.Ops[1].ID != 0 || b.Ops[1].Kind != 9 {
		t.Error("an operation of no kind", b.Ops[1])
	}
	b.IDs[0], b.Ops[0].Vec[0].Amount, b.Ops[2].Kind = 99, 99, 99
	c.Ops[1].Kind = api.Reserve
	if !Same(c, full(api.Accept)) {
		t.Error("shared")
	}
}

// P14.3
func TestSame(t *testing.T) {
	changes := append(right(), change{0, func(c *api.Call) { c.Kind = 9 }},
		change{0, func(c *api.Call) { c.Ops[1].ID = 2 }}, change{0, func(c *api.Call) { c.Ops[1].Kind = 1 }},
		change{0, func(c *api.Call) { c.Ops[2].Vec[0].Amount = 2 }}, change{0, func(c *api.Call) { c.IDs = []int64{8, 7} }})
	for i, x := range changes {
		c, d := full(3), full(3)
		x.set(&c)
		if i == 0 { // 1 is the Frame already
			continue
		}
		if Same(c, d) || Same(d, c) || !Same(c, c) {
			t.Error(i)
		}
	}
	if !Same(api.Call{IDs: []int64{}, Vec: []api.Part{}, Ops: []api.Op{}}, api.Call{}) {
		t.Error("empty lists")
	}
}

package line

import (
	"slices"
	"strings"
	"testing"

	"manciple/api"
	"manciple/conf"
	"manciple/samples"
	"manciple/session"
	"manciple/shape"
	"manciple/vec"
)

func v(s string) []api.Part {
	l, ok := vec.Parse(s)
	if !ok {
		panic(s)
	}
	return l
}

// calls are calls of all kinds, each with its line.
var calls = []struct {
	c api.Call
	s string
}{
	{api.Call{Kind: api.Register, Agent: 300, Vec: v("cpus:1.5,mem(3):2")}, "register 300 cpus:1.5,mem(3):2"},
	{api.Call{Kind: api.Lose, Agent: 2}, "lose 2"},
	{api.Call{Kind: api.Subscribe, Frame: 1, Role: 32, Weight: 1000, Time: 0}, "subscribe 1 32 1000 0"},
	{api.Call{Kind: api.Disconnect, Frame: 4}, "disconnect 4"},
	{api.Call{Kind: api.Teardown, Frame: api.Top}, "teardown 9007199254740992"},
	{api.Call{Kind: api.Accept, Frame: 1, IDs: []int64{4, 5}, Ops: []api.Op{{Kind: api.Launch, ID: 7, Vec: v("cpus:1,mem:2")}, {Kind: api.Reserve, Vec: v("mem:1")}, {Kind: api.Unreserve, Vec: v("mem(2):1")}}},
		"accept 1 0 4,5 launch:7:cpus:1,mem:2;reserve:mem:1;unreserve:mem(2):1"},
	{api.Call{Kind: api.Accept, Frame: 1, Time: 9, IDs: []int64{4, 4}}, "accept 1 9 4,4 -"},
	{api.Call{Kind: api.Decline, Frame: 1, Time: 2, IDs: []int64{4}}, "decline 1 2 4"},
	{api.Call{Kind: api.Rescind, ID: 9}, "rescind 9"},
	{api.Call{Kind: api.Revive, Frame: 9}, "revive 9"},
	{api.Call{Kind: api.Suppress, Frame: 9}, "suppress 9"},
	{api.Call{Kind: api.Kill, Frame: 9, ID: 8}, "kill 9 8"},
	{api.Call{Kind: api.Finish, Frame: 9, ID: 8}, "finish 9 8"},
	{api.Call{Kind: api.Tick, Time: 5}, "tick 5"},
	{api.Call{Kind: api.Allocate, Agent: 5}, "allocate 5"},
	{api.Call{Kind: api.All}, "all"},
}

// P33.1 and P33.4
func TestTextParse(t *testing.T) {
	for _, x := range calls {
		if s, ok := Text(x.c); !ok || s != x.s {
			t.Error("Text", x.c, s, ok)
		}
		if c, ok := Parse(x.s); !ok || !shape.Same(c, x.c) {
			t.Error("Parse", x.s, c, ok)
		}
		for _, s := range []string{x.s + " ", " " + x.s, x.s + " 1", strings.Replace(x.s, " ", "  ", 1) + "\n", x.s[:len(x.s)-1] + "x", "#" + x.s} {
			if c, ok := Parse(s); ok || !shape.Same(c, api.Call{}) {
				t.Error("Parse", s, c)
			}
		}
	}
	full := api.Call{Kind: api.Tick, Frame: -1, Agent: -1, ID: -1, Role: -1, Weight: -1, Time: 5, IDs: []int64{-1}, Vec: []api.Part{{}}, Ops: []api.Op{{}}}
	if s, ok := Text(full); !ok || s != "tick 5" {
		t.Error("fields that are not used", s)
	}
}

// P33.1
func TestNone(t *testing.T) {
	for _, c := range []api.Call{{}, {Kind: 16}, {Kind: -1}, {Kind: api.Tick, Time: -1}, {Kind: api.Lose}, {Kind: api.Register, Agent: 1}, {Kind: api.Decline, Frame: 1}} {
		if s, ok := Text(c); ok || s != "" {
			t.Error("Text", c, s)
		}
	}
	for _, s := range []string{
		"", " ", "tick", "tick ", "tick 05", "tick -1", "tick +5", "tick 5 ", "tick  5", "tick 5 5", "Tick 5", "tick 9007199254740993", "tick 18446744073709551621", "tick x", "ticks 5",
		"lose 0", "lose 00", "lose 1.0", "all 1", "all ", "register 1 -", "register 1 cpus:0", "register 1 mem:1,cpus:1", "register 1", "register 1 cpus:01",
		"subscribe 1 0 1 0", "subscribe 1 33 1 0", "subscribe 1 1 0 0", "subscribe 1 1 1001 0", "subscribe 1 1 1", "subscribe 1 4294967297 1 0",
		"decline 1 0 ", "decline 1 0 -", "decline 1 0 0", "decline 1 0 4,", "decline 1 0 ,4", "decline 1 0 4,,5", "decline 1 0 4, 5", "decline 1 0 04",
		"accept 1 0 4", "accept 1 0 4 ", "accept 1 0 4 ;", "accept 1 0 4 -;-", "accept 1 0 4 launch:1:cpus:1;", "accept 1 0 4 launch:1:cpus:1;-", "accept 1 0 4 reserve:cpus(1):1", "accept 1 0 4 - -",
		"decline 1 0 " + strings.Repeat("1,", 32) + "1", "accept 1 0 4 " + strings.Repeat("reserve:cpus:1;", 32) + "reserve:cpus:1",
	} {
		if c, ok := Parse(s); ok || !shape.Same(c, api.Call{}) {
			t.Error("Parse", s, c)
		}
	}
}

func sameOp(a, b api.Op) bool {
	return a.Kind == b.Kind && a.ID == b.ID && vec.Same(a.Vec, b.Vec)
}

// P33.2
func TestOps(t *testing.T) {
	for _, x := range []struct {
		o api.Op
		s string
	}{
		{api.Op{Kind: api.Launch, ID: 7, Vec: v("cpus:1,mem:2")}, "launch:7:cpus:1,mem:2"},
		{api.Op{Kind: api.Launch, ID: api.Top, Vec: v("cpus(9):1")}, "launch:9007199254740992:cpus(9):1"},
		{api.Op{Kind: api.Reserve, Vec: v("mem:1")}, "reserve:mem:1"},
		{api.Op{Kind: api.Unreserve, Vec: v("mem(2):0.5")}, "unreserve:mem(2):0.5"},
	} {
		if s := Op(x.o); s != x.s {
			t.Error("Op", x.o, s)
		}
		if o, ok := OfOp(x.s); !ok || !sameOp(o, x.o) {
			t.Error("OfOp", x.s, o, ok)
		}
	}
	if s := Op(api.Op{Kind: api.Reserve, ID: -5, Vec: v("mem:1")}); s != "reserve:mem:1" {
		t.Error("an ID that does not matter", s)
	}
	for _, o := range []api.Op{
		{}, {Kind: 4, ID: 1, Vec: v("mem:1")}, {Kind: api.Launch, Vec: v("mem:1")}, {Kind: api.Launch, ID: api.Top + 1, Vec: v("mem:1")}, {Kind: api.Launch, ID: 1}, {Kind: api.Launch, ID: 1, Vec: []api.Part{{Amount: -1}}},
		{Kind: api.Reserve, Vec: v("mem(1):1")}, {Kind: api.Reserve}, {Kind: api.Unreserve, Vec: v("mem:1,mem(1):1")}, {Kind: api.Unreserve},
	} {
		if s := Op(o); s != "" {
			t.Error("Op", o, s)
		}
	}
	for _, s := range []string{
		"", "-", "launch", "launch:", "launch:1", "launch:1:", "launch:1:-", "launch:0:cpus:1", "launch:01:cpus:1", "launch:-1:cpus:1", "launch:x:cpus:1", "launch:cpus:1", "launch::cpus:1",
		"launch:9007199254740993:cpus:1", "reserve", "reserve:", "reserve:-", "reserve:1:cpus:1", "reserve:cpus(1):1", "unreserve:cpus:1", "unreserve:cpus:1,cpus(1):1", "Reserve:cpus:1", " reserve:cpus:1", "reserve:cpus:1 ", "grow:cpus:1", ":cpus:1",
	} {
		if o, ok := OfOp(s); ok || !sameOp(o, api.Op{}) {
			t.Error("OfOp", s, o)
		}
	}
}

// P33.3
func TestScriptRead(t *testing.T) {
	var l []api.Call
	all := ""
	for _, x := range calls {
		l = append(l, x.c)
		all += x.s + "\n"
	}
	if s, at := Script(l...); at != 0 || s != all {
		t.Error("Script", s, at)
	}
	if got, at, ok := Read(all); !ok || at != 0 || !slices.EqualFunc(got, l, shape.Same) {
		t.Error("Read", got, at, ok)
	}
	if s, at := Script(); at != 0 || s != "" {
		t.Error("Script of nothing", s, at)
	}
	if s, at := Script(l[0], api.Call{}, l[1], api.Call{}); at != 2 || s != "" {
		t.Error("Script", s, at)
	}
	for _, c := range []struct {
		s        string
		long, at int
		ok       bool
	}{
		{"", 0, 0, true}, {"\n\n", 0, 0, true}, {"# tick 05", 0, 0, true}, {"tick 5", 1, 0, true}, {"#\n\ntick 5\n#x\nall", 2, 0, true},
		{"tick 05", 0, 1, false}, {"tick 5\n\n# x\n #\ntick 6", 1, 4, false}, {"tick 5\r\ntick 6", 0, 1, false}, {"tick 5\n ", 1, 2, false}, {"all\nall\nall \n", 2, 3, false},
	} {
		if got, at, ok := Read(c.s); len(got) != c.long || at != c.at || ok != c.ok {
			t.Error("Read", c.s, got, at, ok)
		}
	}
}

// P33.4 and M6: calls as lines have the same replies.
func TestReplies(t *testing.T) {
	source := samples.Source(8)
	one, _ := session.New(conf.Small())
	two, _ := session.New(conf.Small())
	for range 500 {
		c := source.Call(one.Book())
		s, ok := Text(c)
		if !ok {
			continue
		}
		d, is := Parse(s)
		if !is || !shape.Same(d, shape.Bare(c)) {
			t.Fatal(s, d)
		}
		x, y := one.Do(c), two.Do(d)
		if x.Code != y.Code || len(x.Events) != len(y.Events) {
			t.Fatal(c, x, y)
		}
	}
}

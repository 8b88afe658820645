package wire

import (
	"bytes"
	"math"
	"slices"
	"testing"

	"manciple/api"
	"manciple/conf"
	"manciple/samples"
	"manciple/session"
	"manciple/shape"
	"manciple/vec"
)

func v(s string) []api.Part {
	l, ok := vec.Parse(s)
	if !ok {
		panic(s)
	}
	return l
}

// P32.1
func TestNumCut(t *testing.T) {
	for _, c := range []struct {
		n uint64
		b []byte
	}{
		{0, []byte{0}}, {1, []byte{1}}, {127, []byte{127}}, {128, []byte{128, 1}}, {300, []byte{172, 2}}, {16383, []byte{255, 127}}, {16384, []byte{128, 128, 1}},
		{math.MaxUint64, []byte{255, 255, 255, 255, 255, 255, 255, 255, 255, 1}}, {1 << 63, []byte{128, 128, 128, 128, 128, 128, 128, 128, 128, 1}}, {1<<63 - 1, []byte{255, 255, 255, 255, 255, 255, 255, 255, 127}},
	} {
		if got := Num(nil, c.n); !bytes.Equal(got, c.b) {
			t.Error("Num", c.n, got)
		}
		if got := Num([]byte{9, 8}, c.n); !bytes.Equal(got, append([]byte{9, 8}, c.b...)) {
			t.Error("Num", c.n, got)
		}
		for _, rest := range [][]byte{nil, {0}, {255, 255}} {
			if n, size, ok := Cut(append(slices.Clone(c.b), rest...)); n != c.n || size != len(c.b) || !ok {
				t.Error("Cut", c.b, n, size, ok)
			}
		}
		if n, size, ok := Cut(c.b[:len(c.b)-1]); n != 0 || size != 0 || ok {
			t.Error("Cut of a part", c.b, n, size, ok)
		}
	}
	for _, b := range [][]byte{
		nil, {128}, {128, 0}, {129, 0}, {255, 128, 0}, {255, 255, 255, 255, 255, 255, 255, 255, 255, 2}, {255, 255, 255, 255, 255, 255, 255, 255, 255, 127},
		{128, 128, 128, 128, 128, 128, 128, 128, 128, 128, 1}, {129, 128, 128, 128, 128, 128, 128, 128, 128, 128, 0}, {255, 255, 255, 255, 255, 255, 255, 255, 255, 129, 0}, bytes.Repeat([]byte{128}, 100),
	} {
		if n, size, ok := Cut(b); n != 0 || size != 0 || ok {
			t.Error("Cut", b, n, size, ok)
		}
	}
}

// P32.2
func TestVec(t *testing.T) {
	for _, c := range []struct {
		v string
		b []byte
	}{{"-", []byte{0}}, {"cpus:0.005", []byte{1, 0, 5}}, {"mem(3):0.3", []byte{1, 13, 172, 2}}, {"cpus:0.001,gpus(32):0.002", []byte{2, 0, 1, 131, 1, 2}}} {
		if b, ok := Vec([]byte{7}, v(c.v)); !ok || !bytes.Equal(b, append([]byte{7}, c.b...)) {
			t.Error("Vec", c.v, b, ok)
		}
		if got, n, ok := CutVec(append(slices.Clone(c.b), 255)); !ok || n != len(c.b) || vec.Text(got) != c.v {
			t.Error("CutVec", c.b, got, n, ok)
		}
		if got, n, ok := CutVec(c.b[:len(c.b)-1]); ok || n != 0 || got != nil {
			t.Error("CutVec of a part", c.b, got, n, ok)
		}
	}
	for _, w := range [][]api.Part{{{Amount: 0}}, {{Kind: 1, Amount: 1}, {Amount: 1}}, {{Role: 33, Amount: 1}}, {{Amount: api.Top + 1}}} {
		if b, ok := Vec([]byte{7}, w); ok || b != nil {
			t.Error("Vec", w, b)
		}
	}
	var full []api.Part
	for kind := range 4 {
		for role := range 33 {
			full = append(full, api.Part{Kind: kind, Role: role, Amount: api.Top})
		}
	}
	b, ok := Vec(nil, full)
	if got, n, is := CutVec(b); !ok || !is || n != len(b) || !vec.Same(got, full) {
		t.Error("a full vector")
	}
	for _, b := range [][]byte{
		nil, {1}, {1, 0}, {1, 0, 0}, {2, 1, 5, 0, 5}, {2, 0, 5, 0, 5}, {1, 132, 1, 5}, {1, 128, 128, 4, 5}, {1, 0, 128, 128, 128, 128, 128, 128, 128, 17}, {1, 0, 129, 128, 128, 128, 128, 128, 128, 16},
		{133, 1}, append([]byte{133, 1}, bytes.Repeat([]byte{0, 1}, 133)...), {255, 255, 255, 255, 255, 255, 255, 255, 255, 1}, {129, 0, 0, 1},
	} {
		if got, n, ok := CutVec(b); ok || n != 0 || got != nil {
			t.Error("CutVec", b, got, n, ok)
		}
	}
}

// calls are calls of all kinds, each with its encoding.
var calls = []struct {
	c api.Call
	b []byte
}{
	{api.Call{Kind: api.Register, Agent: 300, Vec: []api.Part{{Kind: 1, Role: 3, Amount: 5}}}, []byte{1, 172, 2, 1, 13, 5}},
	{api.Call{Kind: api.Lose, Agent: 2}, []byte{2, 2}},
	{api.Call{Kind: api.Subscribe, Frame: 1, Role: 32, Weight: 1000, Time: 7}, []byte{3, 1, 32, 232, 7, 7}},
	{api.Call{Kind: api.Disconnect, Frame: 4}, []byte{4, 4}},
	{api.Call{Kind: api.Teardown, Frame: 4}, []byte{5, 4}},
	{api.Call{Kind: api.Accept, Frame: 1, Time: 2, IDs: []int64{4, 5}, Ops: []api.Op{
		{Kind: api.Launch, ID: 7, Vec: []api.Part{{Amount: 1}}}, {Kind: api.Reserve, Vec: []api.Part{{Amount: 2}}}, {Kind: api.Unreserve, Vec: []api.Part{{Role: 1, Amount: 3}}},
	}}, []byte{6, 1, 2, 2, 4, 5, 3, 1, 7, 1, 0, 1, 2, 1, 0, 2, 3, 1, 4, 3}},
	{api.Call{Kind: api.Accept, Frame: 1, IDs: []int64{4, 4}}, []byte{6, 1, 0, 2, 4, 4, 0}},
	{api.Call{Kind: api.Decline, Frame: 1, Time: 2, IDs: []int64{4}}, []byte{7, 1, 2, 1, 4}},
	{api.Call{Kind: api.Rescind, ID: 9}, []byte{8, 9}},
	{api.Call{Kind: api.Revive, Frame: 9}, []byte{9, 9}},
	{api.Call{Kind: api.Suppress, Frame: 9}, []byte{10, 9}},
	{api.Call{Kind: api.Kill, Frame: 9, ID: 8}, []byte{11, 9, 8}},
	{api.Call{Kind: api.Finish, Frame: 9, ID: 8}, []byte{12, 9, 8}},
	{api.Call{Kind: api.Tick, Time: 5}, []byte{13, 5}},
	{api.Call{Kind: api.Allocate, Agent: 5}, []byte{14, 5}},
	{api.Call{Kind: api.All}, []byte{15}},
}

// P32.3 and P32.5
func TestCallParse(t *testing.T) {
	for _, x := range calls {
		if b, ok := Call(x.c); !ok || !bytes.Equal(b, x.b) {
			t.Error("Call", x.c, b, ok)
		}
		if c, n, ok := Parse(append(slices.Clone(x.b), 255, 1)); !ok || n != len(x.b) || !shape.Same(c, x.c) {
			t.Error("Parse", x.b, c, n, ok)
		}
		for end := range len(x.b) {
			if c, n, ok := Parse(x.b[:end]); ok || n != 0 || !shape.Same(c, api.Call{}) {
				t.Error("Parse of a part", x.b[:end], c, n, ok)
			}
		}
		// Fields that the kind does not use do not matter.
		full := api.Call{Frame: -1, Agent: -1, ID: -1, Role: -1, Weight: -1, Time: -1, IDs: []int64{-1}, Vec: []api.Part{{}}, Ops: []api.Op{{}}}
		full.Kind = x.c.Kind
		for f := shape.Frame; f <= shape.Ops; f++ {
			if shape.Has(x.c.Kind, f) {
				copyField(&full, x.c, f)
			}
		}
		if b, ok := Call(full); !ok || !bytes.Equal(b, x.b) {
			t.Error("Call", full, b, ok)
		}
	}
	ignored := calls[5].c
	ignored.Ops = slices.Clone(ignored.Ops)
	ignored.Ops[1].ID = 99
	if b, ok := Call(ignored); !ok || !bytes.Equal(b, calls[5].b) {
		t.Error("the ID of a Reserve", b)
	}
}

func copyField(to *api.Call, c api.Call, f shape.Field) {
	switch f {
	case shape.Frame:
		to.Frame = c.Frame
	case shape.Agent:
		to.Agent = c.Agent
	case shape.ID:
		to.ID = c.ID
	case shape.Role:
		to.Role = c.Role
	case shape.Weight:
		to.Weight = c.Weight
	case shape.Time:
		to.Time = c.Time
	case shape.IDs:
		to.IDs = c.IDs
	case shape.Vec:
		to.Vec = c.Vec
	case shape.Ops:
		to.Ops = c.Ops
	}
}

// P32.3
func TestNoCalls(t *testing.T) {
	for _, c := range []api.Call{{}, {Kind: 16}, {Kind: -1}, {Kind: api.Tick, Time: -1}, {Kind: api.Lose}, {Kind: api.Register, Agent: 1}, {Kind: api.Decline, Frame: 1}} {
		if b, ok := Call(c); ok || b != nil {
			t.Error("Call", c, b)
		}
	}
	for _, b := range [][]byte{
		nil, {0}, {16}, {129, 0, 1}, {2, 0}, {2, 129, 0}, {13, 129, 128, 128, 128, 128, 128, 128, 16}, {13, 255, 255, 255, 255, 255, 255, 255, 255, 255, 1},
		{3, 1, 0, 1, 0}, {3, 1, 33, 1, 0}, {3, 1, 1, 0, 0}, {3, 1, 1, 233, 7, 0}, {1, 1, 0}, {7, 1, 0, 0}, {7, 1, 0, 1, 0}, append([]byte{7, 1, 0, 33}, bytes.Repeat([]byte{1}, 33)...),
		{6, 1, 0, 1, 4, 1, 0, 1, 0, 1}, {6, 1, 0, 1, 4, 1, 4, 1, 0, 1}, {6, 1, 0, 1, 4, 1, 1, 0, 1, 0, 1}, {6, 1, 0, 1, 4, 1, 2, 1, 4, 1}, {6, 1, 0, 1, 4, 1, 3, 1, 0, 1}, {6, 1, 0, 1, 4, 1, 2, 0}, {6, 1, 0, 1, 4, 33},
		append([]byte{6, 1, 0, 1, 4, 33}, bytes.Repeat([]byte{2, 1, 0, 1}, 33)...), {255, 255, 255, 255, 255, 255, 255, 255, 255, 1},
	} {
		if c, n, ok := Parse(b); ok || n != 0 || !shape.Same(c, api.Call{}) {
			t.Error("Parse", b, c, n, ok)
		}
	}
}

// P32.4
func TestScriptCalls(t *testing.T) {
	var l []api.Call
	var all []byte
	for _, x := range calls {
		l = append(l, x.c)
		all = append(all, x.b...)
	}
	if b, at := Script(l...); at != 0 || !bytes.Equal(b, all) {
		t.Error("Script", b, at)
	}
	if got, n, ok := Calls(all); !ok || n != len(all) || !slices.EqualFunc(got, l, shape.Same) {
		t.Error("Calls", got, n, ok)
	}
	if b, at := Script(); at != 0 || len(b) > 0 {
		t.Error("Script of nothing", b, at)
	}
	if got, n, ok := Calls(nil); !ok || n != 0 || len(got) > 0 {
		t.Error("Calls of nothing", got, n, ok)
	}
	if b, at := Script(l[0], l[1], api.Call{}, api.Call{}); at != 3 || b != nil {
		t.Error("Script", b, at)
	}
	if got, n, ok := Calls(append(slices.Clone(all), 0)); ok || n != len(all) || !slices.EqualFunc(got, l, shape.Same) {
		t.Error("Calls", got, n, ok)
	}
	if got, n, ok := Calls([]byte{2, 2, 4}); ok || n != 2 || len(got) != 1 {
		t.Error("Calls", got, n, ok)
	}
	if got, n, ok := Calls([]byte{0, 2, 2}); ok || n != 0 || len(got) > 0 {
		t.Error("Calls", got, n, ok)
	}
}

// P32.5: whatever bytes are parsed, they are encoded in the same way.
func TestArbitraryBytes(t *testing.T) {
	source := samples.Source(3)
	parsed := 0
	for range 200000 {
		b := make([]byte, source.Below(12))
		for i := range b {
			b[i] = byte([]int{source.Below(4), source.Below(16), source.Below(256)}[source.Below(3)])
		}
		c, n, ok := Parse(b)
		if !ok {
			continue
		}
		parsed++
		if got, is := Call(c); !is || !bytes.Equal(got, b[:n]) || !shape.Same(c, shape.Bare(c)) {
			t.Fatal(b, c, got)
		}
	}
	if parsed < 1000 {
		t.Error(parsed)
	}
}

// M6: calls that were encoded have the same replies.
func TestReplies(t *testing.T) {
	source := samples.Source(8)
	one, _ := session.New(conf.Small())
	two, _ := session.New(conf.Small())
	for range 500 {
		c := source.Call(one.Book())
		b, ok := Call(c)
		if !ok {
			continue
		}
		d, _, _ := Parse(b)
		x, y := one.Do(c), two.Do(d)
		if x.Code != y.Code || len(x.Events) != len(y.Events) {
			t.Fatal(c, x, y)
		}
	}
}

// Rule 4: the spare capacity of arguments is left alone.
func TestSpareCapacity(t *testing.T) {
	b := make([]byte, 2, 50)
	spare := b[:50]
	one := Num(b, 300)
	two, _ := Vec(b, v("cpus:1"))
	one[0], two[0] = 9, 9
	if !bytes.Equal(spare, make([]byte, 50)) {
		t.Error(spare)
	}
}

package slot

import (
	"math"
	"testing"

	"manciple/api"
)

var kindNames = []string{"cpus", "mem", "disk", "gpus"}

func valid() []api.Slot {
	var l []api.Slot
	for kind := 0; kind < 4; kind++ {
		for role := 0; role <= 32; role++ {
			l = append(l, api.Slot{Kind: kind, Role: role})
		}
	}
	return l
}

var wrong = []api.Slot{{Kind: -1}, {Kind: 4}, {Role: -1}, {Role: 33}, {Kind: math.MinInt, Role: 1}, {Kind: math.MaxInt}, {Kind: 3, Role: math.MaxInt}, {Kind: 1, Role: math.MinInt}}

// P4.1
func TestRightCmp(t *testing.T) {
	l := valid()
	for i, a := range l {
		if !Right(a) {
			t.Error("Right", a)
		}
		for j, b := range l {
			want := 0
			if i < j {
				want = -1
			} else if i > j {
				want = 1
			}
			if Cmp(a, b) != want {
				t.Error("Cmp", a, b)
			}
		}
	}
	for _, s := range wrong {
		if Right(s) {
			t.Error("Right", s)
		}
	}
	if Cmp(api.Slot{Kind: math.MinInt, Role: 9}, api.Slot{Kind: math.MaxInt}) != -1 || Cmp(api.Slot{Kind: -1, Role: math.MaxInt}, api.Slot{Kind: -1, Role: math.MinInt}) != 1 || Cmp(wrong[1], wrong[1]) != 0 {
		t.Error("Cmp of any numbers")
	}
}

// P4.2
func TestNameKind(t *testing.T) {
	for kind, name := range kindNames {
		if Name(kind) != name {
			t.Error("Name", kind, Name(kind))
		}
		if k, ok := Kind(name); k != kind || !ok {
			t.Error("Kind", name, k, ok)
		}
	}
	for _, kind := range []int{-1, 4, math.MinInt, math.MaxInt} {
		if Name(kind) != "" {
			t.Error("Name", kind)
		}
	}
	for _, name := range []string{"", "cpu", "Cpus", "cpus ", "memory"} {
		if k, ok := Kind(name); k != 0 || ok {
			t.Error("Kind", name, k, ok)
		}
	}
}

// P4.3 and P4.5
func TestPackUnpack(t *testing.T) {
	if n, ok := Pack(api.Slot{Kind: 1, Role: 3}); n != 13 || !ok {
		t.Error("example", n, ok)
	}
	packed := map[uint16]api.Slot{}
	for _, s := range valid() {
		n, ok := Pack(s)
		if int(n) != 4*s.Role+s.Kind || !ok {
			t.Error("Pack", s, n, ok)
		}
		packed[n] = s
	}
	for _, s := range wrong {
		if n, ok := Pack(s); n != 0 || ok {
			t.Error("Pack", s, n, ok)
		}
	}
	for n := 0; n < 1<<16; n++ {
		s, ok := Unpack(uint16(n))
		if want, is := packed[uint16(n)]; s != want || ok != is {
			t.Error("Unpack", n, s, ok)
		}
	}
}

// P4.4 and P4.5
func TestTextParse(t *testing.T) {
	for _, c := range []struct {
		s    api.Slot
		text string
	}{{api.Slot{Kind: 2}, "disk"}, {api.Slot{Kind: 1, Role: 3}, "mem(3)"}, {api.Slot{Role: 32}, "cpus(32)"}, {api.Slot{Kind: 3, Role: 10}, "gpus(10)"}} {
		if Text(c.s) != c.text {
			t.Error("Text", c.s, Text(c.s))
		}
	}
	for _, s := range valid() {
		if got, ok := Parse(Text(s)); got != s || !ok {
			t.Error("Parse", Text(s), got, ok)
		}
	}
	for _, s := range wrong {
		if Text(s) != "" {
			t.Error("Text", s)
		}
	}
	for _, s := range []string{"", "mem(0)", "mem(33)", "mem(-1)", "mem(+1)", "mem(01)", "mem()", "mem(", "mem)", "mem(3", "mem3)", "mem(3))", "mem((3)", "mem(3)(3)", " mem", "mem ", "mem (3)", "mem( 3)", "(3)", "x(3)", "mem(99999999999999999999)", "mem(x)", "MEM", "mem(3) "} {
		if got, ok := Parse(s); ok || got != (api.Slot{}) {
			t.Error("Parse", s, got, ok)
		}
	}
}

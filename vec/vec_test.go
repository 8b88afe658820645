package vec

import (
	"math"
	"slices"
	"strconv"
	"testing"

	"manciple/api"
)

type parts = []api.Part

func p(kind, role int, amount int64) api.Part {
	return api.Part{Kind: kind, Role: role, Amount: amount}
}

// full has Top of every slot.
func full() parts {
	var v parts
	for kind := 0; kind < 4; kind++ {
		for role := 0; role <= 32; role++ {
			v = append(v, p(kind, role, api.Top))
		}
	}
	return v
}

var valid = []parts{
	nil,
	{p(0, 0, 1)},
	{p(0, 0, 2), p(0, 3, 5)},
	{p(0, 3, 4), p(1, 0, 7)},
	{p(0, 32, api.Top), p(3, 32, 1)},
	{p(1, 0, api.Top-1), p(2, 1, 9), p(3, 0, 3)},
	{p(1, 0, 1), p(2, 1, 8)},
	full(),
}

var wrong = []parts{
	{p(0, 0, 0)},
	{p(0, 0, -1)},
	{p(0, 0, api.Top+1)},
	{p(4, 0, 1)},
	{p(-1, 0, 1)},
	{p(0, 33, 1)},
	{p(0, -1, 1)},
	{p(1, 0, 1), p(0, 0, 1)},
	{p(0, 1, 1), p(0, 0, 1)},
	{p(0, 0, 1), p(0, 0, 1)},
	{p(0, 0, 1), p(1, 0, 0)},
}

func has(v parts, kind, role int) int64 {
	for _, x := range v {
		if x.Kind == kind && x.Role == role {
			return x.Amount
		}
	}
	return 0
}

// each returns the vector that f makes of the amounts of all slots; false if f does.
func each(f func(kind, role int) (int64, bool)) (parts, bool) {
	var v parts
	for kind := 0; kind < 4; kind++ {
		for role := 0; role <= 32; role++ {
			n, ok := f(kind, role)
			if !ok {
				return nil, false
			}
			if n != 0 {
				v = append(v, p(kind, role, n))
			}
		}
	}
	return v, true
}

// P5.1
func TestRight(t *testing.T) {
	for _, v := range valid {
		if !Right(v) {
			t.Error(v)
		}
	}
	for _, v := range wrong {
		if Right(v) {
			t.Error(v)
		}
	}
}

// P5.1
func TestOf(t *testing.T) {
	for _, c := range []struct {
		l, want parts
		ok      bool
	}{
		{nil, nil, true},
		{parts{p(0, 0, 500), p(1, 0, 3000), p(0, 0, 500)}, parts{p(0, 0, 1000), p(1, 0, 3000)}, true},
		{parts{p(3, 2, 1), p(3, 1, 2), p(0, 32, 3), p(0, 0, 0)}, parts{p(0, 32, 3), p(3, 1, 2), p(3, 2, 1)}, true},
		{parts{p(0, 0, 0)}, nil, true},
		{parts{p(0, 0, api.Top-1), p(0, 0, 1)}, parts{p(0, 0, api.Top)}, true},
		{parts{p(0, 0, api.Top), p(0, 0, 1)}, nil, false},
		{parts{p(0, 0, api.Top+1)}, nil, false},
		{parts{p(0, 0, math.MaxInt64), p(0, 0, math.MaxInt64)}, nil, false},
		{parts{p(0, 0, 5), p(0, 0, -1)}, nil, false},
		{parts{p(4, 0, 0)}, nil, false},
		{parts{p(0, 33, 1)}, nil, false},
		{parts{p(0, 0, 1), p(-1, 0, 1)}, nil, false},
	} {
		if v, ok := Of(c.l); !slices.Equal(v, c.want) || ok != c.ok {
			t.Error(c.l, v, ok)
		}
	}
}

// P5.1 and rule 4
func TestCopy(t *testing.T) {
	for _, v := range append(valid, wrong...) {
		if !slices.Equal(Copy(v), v) {
			t.Error(v)
		}
	}
	v := parts{p(0, 0, 1)}
	w := Copy(v)
	w[0].Amount = 9
	if v[0].Amount != 1 {
		t.Error("not a copy")
	}
}

// P5.2
func TestGetSame(t *testing.T) {
	v := parts{p(1, 2, 7), p(1, 2, 8), p(9, 9, -3)}
	if Get(v, api.Slot{Kind: 1, Role: 2}) != 7 || Get(v, api.Slot{Kind: 9, Role: 9}) != -3 || Get(v, api.Slot{Kind: 2, Role: 1}) != 0 || Get(nil, api.Slot{}) != 0 {
		t.Error("Get")
	}
	l := append(slices.Clone(valid), wrong...)
	for i, a := range l {
		for j, b := range l {
			if Same(a, b) != (i == j) {
				t.Error("Same", a, b)
			}
		}
	}
	if !Same(nil, parts{}) || Same(parts{p(0, 0, 1), p(0, 1, 1)}, parts{p(0, 1, 1), p(0, 0, 1)}) {
		t.Error("Same")
	}
}

// P5.2, P5.3 and P5.6
func TestPairs(t *testing.T) {
	for _, a := range valid {
		for _, b := range valid {
			sum, fits := each(func(kind, role int) (int64, bool) {
				n := has(a, kind, role) + has(b, kind, role)
				return n, n <= api.Top
			})
			if v, ok := Add(a, b); !slices.Equal(v, sum) || ok != fits {
				t.Error("Add", a, b, v, ok)
			}
			rest, holds := each(func(kind, role int) (int64, bool) {
				n := has(a, kind, role) - has(b, kind, role)
				return n, n >= 0
			})
			if v, ok := Sub(a, b); !slices.Equal(v, rest) || ok != holds || Holds(a, b) != holds {
				t.Error("Sub", a, b, v, ok, Holds(a, b))
			}
			least, _ := each(func(kind, role int) (int64, bool) {
				return min(has(a, kind, role), has(b, kind, role)), true
			})
			if v := Least(a, b); !slices.Equal(v, least) || !Holds(a, v) || !Holds(b, v) {
				t.Error("Least", a, b, v)
			}
			if fits {
				if v, ok := Sub(sum, b); !ok || !slices.Equal(v, a) {
					t.Error("Sub of Add", a, b)
				}
			}
		}
	}
}

// P5.2 and P5.3: vectors that are not valid
func TestWrongPairs(t *testing.T) {
	for _, w := range wrong {
		for _, v := range append(slices.Clone(valid), wrong...) {
			for _, c := range [][2]parts{{v, w}, {w, v}} {
				sum, more := Add(c[0], c[1])
				rest, less := Sub(c[0], c[1])
				if more || less || sum != nil || rest != nil || Holds(c[0], c[1]) || len(Least(c[0], c[1])) > 0 {
					t.Error(c)
				}
			}
		}
	}
}

// P5.4
func TestOnly(t *testing.T) {
	v := parts{p(0, 0, 1), p(0, 2, 3), p(0, 5, 1), p(1, 2, 4)}
	for _, c := range []struct {
		roles []int
		want  parts
	}{
		{nil, nil},
		{[]int{2}, parts{p(0, 2, 3), p(1, 2, 4)}},
		{[]int{0, 2}, parts{p(0, 0, 1), p(0, 2, 3), p(1, 2, 4)}},
		{[]int{5, 0, 5}, parts{p(0, 0, 1), p(0, 5, 1)}},
		{[]int{-1, 33, 7}, nil},
	} {
		if got := Only(v, c.roles...); !slices.Equal(got, c.want) {
			t.Error(c.roles, got)
		}
	}
	for _, w := range wrong {
		if len(Only(w, 0, 1, 2, 3)) > 0 {
			t.Error(w)
		}
	}
}

// P5.4
func TestMove(t *testing.T) {
	v := parts{p(0, 0, 1), p(0, 3, 5), p(1, 0, 7)}
	for _, c := range []struct {
		v        parts
		from, to int
		want     parts
		ok       bool
	}{
		{parts{p(0, 0, 1)}, 0, 3, parts{p(0, 3, 1)}, true},
		{v, 0, 3, parts{p(0, 3, 6), p(1, 3, 7)}, true},
		{v, 3, 0, parts{p(0, 0, 6), p(1, 0, 7)}, true},
		{v, 3, 32, parts{p(0, 0, 1), p(0, 32, 5), p(1, 0, 7)}, true},
		{v, 3, 3, v, true},
		{v, 9, 10, v, true},
		{nil, 0, 1, nil, true},
		{v, -1, 3, nil, false},
		{v, 3, -1, nil, false},
		{v, 33, 3, nil, false},
		{v, 3, 33, nil, false},
		{nil, 33, 33, nil, false},
		{parts{p(0, 0, 1), p(0, 1, api.Top)}, 0, 1, nil, false},
		{parts{p(0, 0, 1), p(0, 1, api.Top-1)}, 0, 1, parts{p(0, 1, api.Top)}, true},
	} {
		before := slices.Clone(c.v)
		if got, ok := Move(c.v, c.from, c.to); !slices.Equal(got, c.want) || ok != c.ok || !slices.Equal(before, c.v) {
			t.Error(c, got, ok)
		}
	}
	for _, w := range wrong {
		if got, ok := Move(w, 0, 1); ok || len(got) > 0 {
			t.Error(w, got, ok)
		}
	}
}

// P5.5
func TestText(t *testing.T) {
	for _, c := range []struct {
		v parts
		s string
	}{
		{nil, "-"},
		{parts{p(0, 0, 1000), p(1, 0, 3000)}, "cpus:1,mem:3"},
		{parts{p(0, 3, 1500), p(2, 32, 1), p(3, 0, api.Top)}, "cpus(3):1.5,disk(32):0.001,gpus:9007199254740.992"},
	} {
		if Text(c.v) != c.s {
			t.Error("Text", c.v, Text(c.v))
		}
	}
	for _, v := range valid {
		if got, ok := Parse(Text(v)); !slices.Equal(got, v) || !ok {
			t.Error("Parse", Text(v), got, ok)
		}
	}
	for _, v := range wrong {
		if Text(v) != "" {
			t.Error("Text", v)
		}
	}
}

// P5.5
func TestParseNone(t *testing.T) {
	long := Text(full())
	for i := 0; i < 200; i++ {
		long += ",gpus(32):" + strconv.Itoa(i+1)
	}
	for _, s := range []string{"", ",", "--", "-,cpus:1", "mem:1,cpus:1", "cpus:1,cpus:1", "cpus(1):1,cpus:1", "cpus:0", "cpus", "cpus:", ":1", "cpus:1,", ",cpus:1", "cpus:1,,mem:1", "cpus:1:2", "cpus(0):1", "cpus(33):1", "cpus:1.0", "cpus:01", "cpus:-1", " cpus:1", "cpus:1, mem:1", "cpus: 1", "cpus:9007199254740.993", "cpus:1;mem:1", long} {
		if v, ok := Parse(s); ok || len(v) > 0 {
			t.Error("Parse", s, v, ok)
		}
	}
}

// Rule 4: results share nothing with arguments.
func TestResultsAreNew(t *testing.T) {
	a := make(parts, 1, 8)
	a[0] = p(0, 0, 5)
	sum, _ := Add(a, nil)
	rest, _ := Sub(a, nil)
	moved, _ := Move(a, 1, 2)
	made, _ := Of(a)
	for _, v := range []parts{sum, rest, moved, made, Least(a, a), Only(a, 0), Copy(a)} {
		v[0].Amount = 7
		_ = append(v, p(1, 0, 9))
		if a[0] != p(0, 0, 5) || a[:2][1] != (api.Part{}) {
			t.Fatal("shared", a[:2])
		}
	}
}

package sums

import (
	"math"
	"testing"

	"manciple/api"
	"manciple/vec"
)

func p(kind, role int, amount int64) api.Part {
	return api.Part{Kind: kind, Role: role, Amount: amount}
}

var valid = []Sums{{}, {1, 2, 3, 4}, {4, 3, 2, 1}, {0, 0, 0, 7}, {most, 0, 5, most}, {most, most, most, most}, {most - 1, 1, 0, 0}, {7, 9, 0, 0}, {2, 3, 0, 0}}

var wrong = []Sums{{-1, 0, 0, 0}, {0, 0, 0, -1}, {0, most + 1, 0, 0}, {math.MaxInt64, 1, 1, 1}, {1, 1, math.MinInt64, 1}}

// P6.1
func TestOfRight(t *testing.T) {
	for _, c := range []struct {
		v    []api.Part
		want Sums
	}{
		{nil, Sums{}},
		{[]api.Part{p(0, 0, 1000), p(0, 2, 3000)}, Sums{4000, 0, 0, 0}},
		{[]api.Part{p(0, 1, 1), p(1, 0, 2), p(1, 9, 3), p(2, 0, 4), p(3, 31, 5), p(3, 32, 6)}, Sums{1, 5, 4, 11}},
		{[]api.Part{p(1, 0, 1), p(0, 0, 1)}, Sums{}},
		{[]api.Part{p(0, 0, 1), p(7, 0, 1)}, Sums{}},
		{[]api.Part{p(-1, 0, 1)}, Sums{}},
		{[]api.Part{p(0, 0, 0)}, Sums{}},
	} {
		if got := Of(c.v); got != c.want {
			t.Error(c.v, got)
		}
	}
	var full []api.Part
	for role := 0; role <= 32; role++ {
		full = append(full, p(2, role, api.Top))
	}
	if Of(full) != (Sums{0, 0, 33 * api.Top, 0}) {
		t.Error("full")
	}
	for _, a := range valid {
		if !a.Right() {
			t.Error(a)
		}
	}
	for _, a := range wrong {
		if a.Right() {
			t.Error(a)
		}
	}
}

// P6.2
func TestAddSubHolds(t *testing.T) {
	for _, a := range valid {
		for _, b := range valid {
			sum, rest, fits, holds := Sums{}, Sums{}, true, true
			for kind := 0; kind < 4; kind++ {
				sum[kind], rest[kind] = a[kind]+b[kind], a[kind]-b[kind]
				fits = fits && sum[kind] <= 1<<60
				holds = holds && rest[kind] >= 0
			}
			if !fits {
				sum = Sums{}
			}
			if !holds {
				rest = Sums{}
			}
			if got, ok := a.Add(b); got != sum || ok != fits {
				t.Error("Add", a, b, got, ok)
			}
			if got, ok := a.Sub(b); got != rest || ok != holds {
				t.Error("Sub", a, b, got, ok)
			}
			if a.Holds(b) != holds {
				t.Error("Holds", a, b)
			}
		}
		for _, w := range wrong {
			for _, c := range [][2]Sums{{a, w}, {w, a}, {w, w}} {
				sum, more := c[0].Add(c[1])
				rest, less := c[0].Sub(c[1])
				if more || less || sum != (Sums{}) || rest != (Sums{}) || c[0].Holds(c[1]) || c[0].Many(c[1]) != 0 {
					t.Error(c)
				}
			}
		}
	}
}

// P6.3
func TestMany(t *testing.T) {
	for _, c := range []struct {
		a, b Sums
		want int64
	}{
		{Sums{7, 9}, Sums{2, 3}, 3},
		{Sums{7, 8}, Sums{2, 3}, 2},
		{Sums{7, 0}, Sums{2, 3}, 0},
		{Sums{7, 0}, Sums{2, 0}, 3},
		{Sums{7, 9}, Sums{}, 0},
		{Sums{}, Sums{}, 0},
		{Sums{most, most, most, most}, Sums{0, 0, 0, 1}, most},
		{Sums{most, most, most, most}, Sums{most, 1, 1, 1}, 1},
		{Sums{1, 1, 1, 1}, Sums{0, 0, 0, 2}, 0},
	} {
		if got := c.a.Many(c.b); got != c.want {
			t.Error(c, got)
		}
	}
}

// P6.4
func TestDominant(t *testing.T) {
	none := api.Frac{Num: 0, Den: 1}
	for _, c := range []struct {
		a, total Sums
		kind     int
		part     api.Frac
	}{
		{Sums{2, 6}, Sums{9, 18}, 1, api.Frac{Num: 6, Den: 18}},
		{Sums{3, 6}, Sums{9, 18}, 0, api.Frac{Num: 3, Den: 9}},
		{Sums{3, 3}, Sums{9, 9}, 0, api.Frac{Num: 3, Den: 9}},
		{Sums{0, 0, 0, 0}, Sums{0, 5, 5, 0}, 1, api.Frac{Num: 0, Den: 5}},
		{Sums{9, 0, 0, 1}, Sums{0, 0, 0, 7}, 3, api.Frac{Num: 1, Den: 7}},
		{Sums{9, 9, 9, 9}, Sums{}, -1, none},
		{Sums{}, Sums{}, -1, none},
		{Sums{9, 2, 0, 0}, Sums{4, 1, 0, 0}, 0, api.Frac{Num: 9, Den: 4}},
		{Sums{-1, 2, 0, 0}, Sums{4, 1, 0, 0}, -1, none},
		{Sums{1, 2, 0, 0}, Sums{4, most + 1, 0, 0}, -1, none},
		{Sums{most, most - 1}, Sums{most, most}, 0, api.Frac{Num: most, Den: most}},
		{Sums{most - 2, most - 1}, Sums{most, most}, 1, api.Frac{Num: most - 1, Den: most}},
	} {
		if kind, part := Dominant(c.a, c.total); kind != c.kind || part != c.part {
			t.Error(c, kind, part)
		}
	}
}

// P6.5
func TestOfAdd(t *testing.T) {
	a := []api.Part{p(0, 0, 3), p(0, 4, 1), p(2, 1, 6)}
	b := []api.Part{p(0, 4, 2), p(1, 0, 9), p(2, 0, 5)}
	c, _ := vec.Add(a, b)
	if sum, ok := Of(a).Add(Of(b)); !ok || sum != Of(c) {
		t.Error(sum, ok)
	}
}

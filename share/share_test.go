package share

import (
	"math"
	"math/big"
	"slices"
	"testing"

	"manciple/api"
	"manciple/ratio"
	"manciple/sums"
)

func of(num, den, weight int64) Share {
	return Share{api.Frac{Num: num, Den: den}, weight}
}

func valid() []Share {
	var l []Share
	for _, num := range []int64{0, 1, 2, 3, api.Top - 1, api.Top} {
		for _, den := range []int64{1, 2, 3, 4, api.Top - 1, api.Top} {
			for _, weight := range []int64{1, 2, 999, 1000} {
				l = append(l, of(num, den, weight))
			}
		}
	}
	return l
}

var wrong = []Share{{}, of(1, 2, 0), of(1, 2, 1001), of(1, 2, -1), of(1, 0, 1), of(-1, 1, 1), of(1, -1, 1), of(api.Top+1, 1, 1), of(1, api.Top+1, 1), of(math.MaxInt64, math.MaxInt64, math.MaxInt64), of(1, 1, math.MinInt64)}

// P7.1
func TestOfRight(t *testing.T) {
	if s := Of(sums.Sums{2, 6}, sums.Sums{9, 18}, 3); s != of(6, 18, 3) {
		t.Error(s)
	}
	if s := Of(sums.Sums{2, 6}, sums.Sums{}, -7); s != of(0, 1, -7) {
		t.Error(s)
	}
	if s := Of(sums.Sums{-2, 6}, sums.Sums{1, 1}, 5); s != of(0, 1, 5) {
		t.Error(s)
	}
	for _, s := range valid() {
		if !s.Right() {
			t.Error(s)
		}
	}
	for _, s := range wrong {
		if s.Right() {
			t.Error(s)
		}
	}
}

// P7.2 and P7.5
func TestCmp(t *testing.T) {
	if of(2, 3, 2).Cmp(of(1, 2, 1)) != -1 {
		t.Error("example")
	}
	value := func(s Share) *big.Rat {
		r := big.NewRat(s.Part.Num, s.Part.Den)
		return r.Quo(r, big.NewRat(s.Weight, 1))
	}
	for _, a := range valid() {
		for _, b := range valid() {
			if a.Cmp(b) != value(a).Cmp(value(b)) || a.Cmp(b) != -b.Cmp(a) {
				t.Error(a, b, a.Cmp(b))
			}
			if a.Weight == b.Weight && a.Cmp(b) != ratio.Cmp(a.Part, b.Part) {
				t.Error("equal weights", a, b)
			}
		}
		for _, w := range wrong {
			if a.Cmp(w) != 0 || w.Cmp(a) != 0 || w.Cmp(w) != 0 {
				t.Error(a, w)
			}
		}
	}
}

// P7.3
func TestLeast(t *testing.T) {
	for _, c := range []struct {
		l    []Share
		want []int
	}{
		{nil, nil},
		{wrong, nil},
		{[]Share{of(1, 2, 1), of(1, 4, 1), of(2, 8, 1)}, []int{1, 2}},
		{[]Share{of(1, 2, 1)}, []int{0}},
		{[]Share{of(1, 4, 1), of(1, 2, 2), of(1, 2, 1), of(0, 0, 1), of(250, 1, 1000)}, []int{0, 1, 4}},
		{[]Share{of(0, 1, 0), of(3, 3, 1), of(0, 1, 1), of(0, 9, 7), of(0, 1, 1)}, []int{2, 3, 4}},
		{[]Share{of(3, 1, 1), of(2, 1, 1), of(1, 1, 1), of(1, 1, 1), of(2, 1, 1)}, []int{2, 3}},
	} {
		if got := Least(c.l...); !slices.Equal(got, c.want) {
			t.Error(c.l, got)
		}
	}
}

// P7.4
func TestText(t *testing.T) {
	if s := of(6, 18, 1000).Text(); s != "6/18:1000" {
		t.Error(s)
	}
	if s := of(0, 1, 1).Text(); s != "0/1:1" {
		t.Error(s)
	}
	for _, w := range wrong {
		if w.Text() != "" {
			t.Error(w, w.Text())
		}
	}
}

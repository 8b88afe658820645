package ratio

import (
	"math"
	"math/big"
	"testing"

	"manciple/api"
)

const most = math.MaxInt64

func fracs() []api.Frac {
	var l []api.Frac
	sizes := []int64{0, 1, 2, 3, 4, 6, 1 << 31, 1 << 53, most - 1, most}
	for _, num := range sizes {
		for _, den := range sizes[1:] {
			l = append(l, api.Frac{Num: num, Den: den})
		}
	}
	return l
}

var wrong = []api.Frac{{}, {Num: 1}, {Num: -1, Den: 1}, {Num: 1, Den: -1}, {Num: math.MinInt64, Den: math.MinInt64}}

func exact(f api.Frac) *big.Rat { return big.NewRat(f.Num, f.Den) }

// P2.1
func TestRightCmp(t *testing.T) {
	for _, f := range fracs() {
		if !Right(f) {
			t.Error("Right", f)
		}
		for _, w := range wrong {
			if Right(w) || Cmp(f, w) != 0 || Cmp(w, f) != 0 {
				t.Error("wrong", w)
			}
		}
	}
	if Cmp(api.Frac{Num: 2, Den: 3}, api.Frac{Num: 3, Den: 5}) != 1 {
		t.Error("example")
	}
}

// P2.1 and P2.5
func TestCmpIsExact(t *testing.T) {
	for _, a := range fracs() {
		for _, b := range fracs() {
			if Cmp(a, b) != exact(a).Cmp(exact(b)) || Cmp(a, b) != -Cmp(b, a) {
				t.Error("Cmp", a, b, Cmp(a, b))
			}
		}
	}
}

// P2.2
func TestLowGcd(t *testing.T) {
	for _, f := range fracs() {
		low := Low(f)
		want := exact(f)
		if low.Num != want.Num().Int64() || low.Den != want.Denom().Int64() {
			t.Error("Low", f, low)
		}
	}
	for _, w := range wrong {
		if Low(w) != (api.Frac{}) {
			t.Error("Low", w)
		}
	}
	for _, c := range [][3]int64{{0, 0, 0}, {0, 7, 7}, {7, 0, 7}, {12, 18, 6}, {18, 12, 6}, {5, 9, 1}, {-2, 4, 0}, {4, -2, 0}, {-4, 0, 0}, {0, -4, 0}, {most, most, most}, {math.MinInt64, most, 0}} {
		if Gcd(c[0], c[1]) != c[2] {
			t.Error("Gcd", c, Gcd(c[0], c[1]))
		}
	}
}

// P2.3
func TestMax(t *testing.T) {
	half, twoQuarters, third := api.Frac{Num: 1, Den: 2}, api.Frac{Num: 2, Den: 4}, api.Frac{Num: 1, Den: 3}
	for _, c := range []struct {
		l    []api.Frac
		want api.Frac
		at   int
	}{
		{nil, api.Frac{}, -1},
		{wrong, api.Frac{}, -1},
		{[]api.Frac{third}, third, 0},
		{[]api.Frac{third, half, twoQuarters}, half, 1},
		{[]api.Frac{half, third, twoQuarters}, half, 0},
		{[]api.Frac{{Num: 9, Den: 0}, third, twoQuarters, half, {Num: 9, Den: -1}}, twoQuarters, 2},
		{[]api.Frac{{Num: -1, Den: 1}, {Num: 0, Den: 5}}, api.Frac{Num: 0, Den: 5}, 1},
	} {
		if f, at := Max(c.l...); f != c.want || at != c.at {
			t.Error("Max", c.l, f, at)
		}
	}
}

// P2.4
func TestTextParse(t *testing.T) {
	for _, f := range fracs() {
		s := Text(f)
		if got, ok := Parse(s); got != f || !ok {
			t.Error("Parse", s, got, ok)
		}
	}
	if Text(api.Frac{Num: 6, Den: 4}) != "6/4" || Text(api.Frac{Num: 0, Den: most}) != "0/9223372036854775807" {
		t.Error("Text")
	}
	for _, w := range wrong {
		if Text(w) != "" {
			t.Error("Text", w)
		}
	}
	for _, s := range []string{"", "/", "6", "6/", "/4", "06/4", "6/04", "6/0", "-6/4", "6/-4", "+6/4", "6/+4", " 6/4", "6/4 ", "6 /4", "6/4/1", "6//4", "a/b", "1_0/2", "-0/1", "9223372036854775808/1", "1/9223372036854775808"} {
		if f, ok := Parse(s); ok || f != (api.Frac{}) {
			t.Error("Parse", s, f, ok)
		}
	}
}

// Rule 4: Max leaves its arguments as they are.
func TestMaxLeavesArguments(t *testing.T) {
	l := []api.Frac{{Num: 1, Den: 2}, {Num: 3, Den: 4}}
	Max(l...)
	if l[0] != (api.Frac{Num: 1, Den: 2}) || l[1] != (api.Frac{Num: 3, Den: 4}) {
		t.Error(l)
	}
}

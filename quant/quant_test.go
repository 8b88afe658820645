package quant

import (
	"math"
	"math/big"
	"testing"

	"manciple/api"
)

var numbers = []int64{math.MinInt64, -1 << 53, -1, 0, 1, 2, 3, 999, 1000, 1 << 31, 1<<32 + 1, api.Top - 1, api.Top, api.Top + 1, math.MaxInt64 - 1, math.MaxInt64}

// P3.1
func TestRight(t *testing.T) {
	for _, n := range numbers {
		if Right(n) != (n >= 0 && n <= 1<<53) {
			t.Error(n)
		}
	}
}

// within returns what is to be returned for an exact result, if some numbers are not negative.
func within(n *big.Int, most int64, parts ...int64) (int64, bool) {
	for _, p := range parts {
		if p < 0 {
			return 0, false
		}
	}
	if n.Sign() < 0 || n.Cmp(big.NewInt(most)) > 0 {
		return 0, false
	}
	return n.Int64(), true
}

// P3.2
func TestAddTimes(t *testing.T) {
	for _, a := range numbers {
		for _, b := range numbers {
			x, y := big.NewInt(a), big.NewInt(b)
			for _, most := range numbers {
				want, ok := within(new(big.Int).Add(x, y), most, a, b)
				if n, is := Add(a, b, most); n != want || is != ok {
					t.Error("Add", a, b, most, n, is)
				}
				want, ok = within(new(big.Int).Mul(x, y), most, a, b, most)
				if n, is := Times(a, b, most); n != want || is != ok {
					t.Error("Times", a, b, most, n, is)
				}
			}
		}
	}
}

// P3.2 and P3.4
func TestSub(t *testing.T) {
	for _, a := range numbers {
		for _, b := range numbers {
			want, ok := within(new(big.Int).Sub(big.NewInt(a), big.NewInt(b)), math.MaxInt64, b)
			if n, is := Sub(a, b); n != want || is != ok {
				t.Error("Sub", a, b, n, is)
			}
			if sum, ok := Add(a, b, math.MaxInt64); ok {
				if n, is := Sub(sum, b); n != a || !is {
					t.Error("Sub of Add", a, b)
				}
			}
		}
	}
}

// P3.2 and P3.4
func TestSum(t *testing.T) {
	for _, c := range []struct {
		most int64
		l    []int64
		want int64
		ok   bool
	}{
		{0, nil, 0, true},
		{-1, nil, 0, false},
		{6, []int64{1, 2, 3}, 6, true},
		{6, []int64{3, 1, 2}, 6, true},
		{5, []int64{3, 1, 2}, 0, false},
		{5, []int64{3, -1, 2}, 0, false},
		{9, []int64{math.MaxInt64, math.MaxInt64, 3}, 0, false},
		{math.MaxInt64, []int64{math.MaxInt64, 1}, 0, false},
		{math.MaxInt64, []int64{math.MaxInt64 - 1, 1}, math.MaxInt64, true},
		{math.MinInt64, []int64{1}, 0, false},
	} {
		if n, ok := Sum(c.most, c.l...); n != c.want || ok != c.ok {
			t.Error(c, n, ok)
		}
	}
}

// P3.3
func TestText(t *testing.T) {
	for _, c := range []struct {
		n int64
		s string
	}{
		{0, "0"}, {1, "0.001"}, {25, "0.025"}, {100, "0.1"}, {120, "0.12"}, {999, "0.999"}, {1000, "1"}, {1500, "1.5"}, {2000, "2"}, {10010, "10.01"}, {1000000, "1000"}, {api.Top, "9007199254740.992"}, {api.Top - 992, "9007199254740"},
	} {
		if Text(c.n) != c.s {
			t.Error("Text", c.n, Text(c.n))
		}
		if n, ok := Parse(c.s); n != c.n || !ok {
			t.Error("Parse", c.s, n, ok)
		}
	}
	for _, n := range []int64{-1, api.Top + 1, math.MinInt64, math.MaxInt64} {
		if Text(n) != "" {
			t.Error("Text", n)
		}
	}
}

// P3.3
func TestParseNone(t *testing.T) {
	for _, s := range []string{"", ".", "0.", ".5", "1.50", "1.0", "1.", "01", "00", "00.5", "1.2.3", "1..2", "1.2345", "1.0005", "-1", "+1", " 1", "1 ", "1e3", "a", "1,5", "٣", "1.\xff", "9007199254740.993", "9007199254741", "99999999999999999999999999999999", "10000000000000000000", "18446744073709551616", "9223372036854775.809"} {
		if n, ok := Parse(s); ok || n != 0 {
			t.Error("Parse", s, n, ok)
		}
	}
}

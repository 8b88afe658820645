package bound

import (
	"cmp"
	"math"
	"slices"

	"manciple/api"
	"manciple/ratio"
	"manciple/wide"
)

// nat is a number of any size: its words of 64 bits, the least one first, the last one of which is not 0. It is never changed.
type nat []uint64

// trim returns words without zeros at the end as a number.
func trim(words []uint64) nat {
	for len(words) > 0 && words[len(words)-1] == 0 {
		words = words[:len(words)-1]
	}
	return words
}

func natOf(n int64) nat { return trim([]uint64{uint64(n)}) }

// at returns the word at an index, even beyond the last one.
func (a nat) at(i int) uint64 {
	if i < len(a) {
		return a[i]
	}
	return 0
}

func (a nat) cmp(b nat) int {
	if len(a) != len(b) {
		return cmp.Compare(len(a), len(b))
	}
	for i := len(a) - 1; i >= 0; i-- {
		if a[i] != b[i] {
			return cmp.Compare(a[i], b[i])
		}
	}
	return 0
}

func (a nat) plus(b nat) nat {
	words := make([]uint64, max(len(a), len(b))+1)
	carry := uint64(0)
	for i := range words {
		sum, _ := wide.Of(a.at(i)).Add(wide.Of(b.at(i)))
		sum, _ = sum.Add(wide.Of(carry))
		words[i] = sum.Lo
		carry = sum.Hi
	}
	return trim(words)
}

// minus returns the difference of a and what is not greater.
func (a nat) minus(b nat) nat {
	words := make([]uint64, len(a))
	borrow := uint64(0)
	for i := range words {
		less, _ := wide.Of(b.at(i)).Add(wide.Of(borrow))
		rest, fits := wide.Of(a[i]).Sub(less)
		words[i] = rest.Lo
		borrow = 0
		if !fits {
			borrow = 1
		}
	}
	return trim(words)
}

func (a nat) times(n int64) nat {
	words := make([]uint64, len(a)+1)
	carry := uint64(0)
	for i := range words {
		product, _ := wide.Mul(a.at(i), uint64(n)).Add(wide.Of(carry))
		words[i] = product.Lo
		carry = product.Hi
	}
	return trim(words)
}

// div returns the quotient, rounded down, and the remainder; d is at least 1.
func (a nat) div(d int64) (nat, int64) {
	words := make([]uint64, len(a))
	rest := uint64(0)
	for i := len(a) - 1; i >= 0; i-- {
		var quotient wide.Wide
		quotient, rest = wide.Wide{Hi: rest, Lo: a[i]}.Div(uint64(d))
		words[i] = quotient.Lo
	}
	return trim(words), int64(rest)
}

// small returns the number and whether it is at most 2^63 - 1.
func (a nat) small() (int64, bool) {
	if len(a) > 1 || a.at(0) > math.MaxInt64 {
		return 0, false
	}
	return int64(a.at(0)), true
}

// exact is a fraction of numbers of any size. Each prime that divides the denominator divides one of the factors.
type exact struct {
	num, den nat
	factors  []int64
}

func zero() exact { return exact{den: natOf(1)} }

// plus returns the sum of x and a valid fraction.
func (x exact) plus(f api.Frac) exact {
	f = ratio.Low(f)
	_, rest := x.den.div(f.Den)
	common := ratio.Gcd(f.Den, rest)
	widened := f.Den / common
	missing, _ := x.den.div(common)
	sum := exact{x.num.times(widened).plus(missing.times(f.Num)), x.den.times(widened), x.factors}
	if widened > 1 {
		sum.factors = append(slices.Clip(x.factors), widened)
	}
	return sum
}

// low returns the fraction in lowest terms, and true; the zero value and false if one of its numbers is too great.
func (x exact) low() (api.Frac, bool) {
	num, den := x.num, x.den
	for _, factor := range x.factors {
		for {
			_, above := num.div(factor)
			common := ratio.Gcd(factor, above)
			_, below := den.div(common)
			common = ratio.Gcd(common, below)
			if common == 1 {
				break
			}
			num, _ = num.div(common)
			den, _ = den.div(common)
		}
	}
	n, fits := num.small()
	d, also := den.small()
	if !fits || !also {
		return api.Frac{}, false
	}
	return api.Frac{Num: n, Den: d}, true
}

// Package wide is layer 1: unsigned numbers below 2^128, so that products can be compared exactly.
package wide

import "math/bits"

// Wide is the number Hi times 2^64 plus Lo.
type Wide struct{ Hi, Lo uint64 }

// Of returns n.
func Of(n uint64) Wide { return Wide{Lo: n} }

// Mul returns the product, which always fits.
func Mul(a, b uint64) Wide {
	hi, lo := bits.Mul64(a, b)
	return Wide{hi, lo}
}

// Add returns the sum modulo 2^128, and whether it fits.
func (a Wide) Add(b Wide) (Wide, bool) {
	lo, carry := bits.Add64(a.Lo, b.Lo, 0)
	hi, over := bits.Add64(a.Hi, b.Hi, carry)
	return Wide{hi, lo}, over == 0
}

// Sub returns the difference modulo 2^128, and whether b is not greater than a.
func (a Wide) Sub(b Wide) (Wide, bool) {
	lo, borrow := bits.Sub64(a.Lo, b.Lo, 0)
	hi, under := bits.Sub64(a.Hi, b.Hi, borrow)
	return Wide{hi, lo}, under == 0
}

// Times returns the product modulo 2^128, and whether it fits.
func (a Wide) Times(b uint64) (Wide, bool) {
	low, high := Mul(a.Lo, b), Mul(a.Hi, b)
	hi, over := bits.Add64(low.Hi, high.Lo, 0)
	return Wide{hi, low.Lo}, high.Hi == 0 && over == 0
}

// Div returns the quotient, rounded down, and the remainder; zeros if d is 0.
func (a Wide) Div(d uint64) (Wide, uint64) {
	if d == 0 {
		return Wide{}, 0
	}
	lo, rest := bits.Div64(a.Hi%d, a.Lo, d)
	return Wide{a.Hi / d, lo}, rest
}

// Cmp returns -1, 0 or 1 if a is less than, equal to or greater than b.
func (a Wide) Cmp(b Wide) int {
	if a == b {
		return 0
	}
	if a.Hi < b.Hi || a.Hi == b.Hi && a.Lo < b.Lo {
		return -1
	}
	return 1
}

// Up returns a times 2^n modulo 2^128; 0 if n is negative.
func (a Wide) Up(n int) Wide {
	switch {
	case n < 0:
		return Wide{}
	case n < 64:
		return Wide{a.Hi<<n | a.Lo>>(64-n), a.Lo << n}
	}
	return Wide{Hi: a.Lo << (n - 64)}
}

// Down returns a divided by 2^n, rounded down; 0 if n is negative.
func (a Wide) Down(n int) Wide {
	switch {
	case n < 0:
		return Wide{}
	case n < 64:
		return Wide{a.Hi >> n, a.Lo>>n | a.Hi<<(64-n)}
	}
	return Wide{Lo: a.Hi >> (n - 64)}
}

// Bits returns the least k such that a is below 2^k.
func (a Wide) Bits() int {
	k := 128
search:
	for n := range 128 {
		if a.Down(n) == (Wide{}) {
			k = n
			break search
		}
	}
	return k
}

// maxDigits is how many digits the greatest number has.
const maxDigits = 39

// Text returns the number in decimal, without leading zeros.
func (a Wide) Text() string {
	var digits [maxDigits]byte
	at := maxDigits
	for {
		quotient, digit := a.Div(10)
		at--
		digits[at] = byte('0' + digit)
		a = quotient
		if a == (Wide{}) {
			return string(digits[at:])
		}
	}
}

// Parse returns the number whose Text is s, and true; 0 and false if there is none.
func Parse(s string) (Wide, bool) {
	if s == "" || len(s) > maxDigits || s[0] == '0' && s != "0" {
		return Wide{}, false
	}
	n := Wide{}
	for i := range len(s) {
		if s[i] < '0' || s[i] > '9' {
			return Wide{}, false
		}
		tens, fits := n.Times(10)
		sum, more := tens.Add(Of(uint64(s[i] - '0')))
		if !fits || !more {
			return Wide{}, false
		}
		n = sum
	}
	return n, true
}

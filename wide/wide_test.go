package wide

import (
	"math/big"
	"testing"
)

var samples = []uint64{0, 1, 2, 3, 9, 10, 1000, 1<<32 - 1, 1 << 32, 1 << 53, 1<<63 - 1, 1 << 63, 1<<63 + 1, 1<<64 - 2, 1<<64 - 1}

func wides() []Wide {
	var l []Wide
	for _, hi := range samples {
		for _, lo := range samples {
			l = append(l, Wide{hi, lo})
		}
	}
	return l
}

func exact(a Wide) *big.Int {
	n := new(big.Int).Lsh(new(big.Int).SetUint64(a.Hi), 64)
	return n.Add(n, new(big.Int).SetUint64(a.Lo))
}

var all = new(big.Int).Lsh(big.NewInt(1), 128)

// reduced returns n modulo 2^128 as a Wide, and whether n fits.
func reduced(n *big.Int) (Wide, bool) {
	m := new(big.Int).Mod(n, all)
	lo := new(big.Int).And(m, new(big.Int).SetUint64(1<<64-1)).Uint64()
	return Wide{new(big.Int).Rsh(m, 64).Uint64(), lo}, m.Cmp(n) == 0
}

// P1.1
func TestOfMulCmp(t *testing.T) {
	if Of(7) != (Wide{0, 7}) || Mul(1<<63, 6) != (Wide{3, 0}) {
		t.Error("examples")
	}
	for _, a := range samples {
		for _, b := range samples {
			want, _ := reduced(new(big.Int).Mul(exact(Of(a)), exact(Of(b))))
			if Mul(a, b) != want {
				t.Error("Mul", a, b, Mul(a, b))
			}
		}
	}
	for _, a := range wides() {
		for _, b := range wides() {
			if a.Cmp(b) != exact(a).Cmp(exact(b)) {
				t.Error("Cmp", a, b)
			}
		}
	}
}

// P1.2
func TestAddSubTimes(t *testing.T) {
	for _, a := range wides() {
		for _, b := range wides() {
			want, fits := reduced(new(big.Int).Add(exact(a), exact(b)))
			if got, ok := a.Add(b); got != want || ok != fits {
				t.Error("Add", a, b, got, ok)
			}
			want, fits = reduced(new(big.Int).Sub(exact(a), exact(b)))
			if got, ok := a.Sub(b); got != want || ok != fits {
				t.Error("Sub", a, b, got, ok)
			}
		}
		for _, b := range samples {
			want, fits := reduced(new(big.Int).Mul(exact(a), exact(Of(b))))
			if got, ok := a.Times(b); got != want || ok != fits {
				t.Error("Times", a, b, got, ok)
			}
		}
	}
}

// P1.3 and P1.6
func TestDiv(t *testing.T) {
	for _, a := range wides() {
		if q, r := a.Div(0); q != (Wide{}) || r != 0 {
			t.Error("Div by 0", a, q, r)
		}
		for _, d := range samples[1:] {
			q, r := a.Div(d)
			product, fits := q.Times(d)
			sum, more := product.Add(Of(r))
			if sum != a || !fits || !more || r >= d {
				t.Error("Div", a, d, q, r)
			}
		}
	}
}

// P1.4
func TestUpDownBits(t *testing.T) {
	for _, a := range wides() {
		for _, n := range []int{0, 1, 5, 63, 64, 65, 127, 128, 129, 1 << 62} {
			var up, down Wide
			if n <= 128 {
				up, _ = reduced(new(big.Int).Lsh(exact(a), uint(n)))
				down, _ = reduced(new(big.Int).Rsh(exact(a), uint(n)))
			}
			if a.Up(n) != up || a.Down(n) != down {
				t.Error("shift", a, n, a.Up(n), a.Down(n))
			}
		}
		if a.Up(-1) != (Wide{}) || a.Down(-1) != (Wide{}) || a.Up(-1<<63) != (Wide{}) {
			t.Error("negative shift", a)
		}
		if a.Bits() != exact(a).BitLen() {
			t.Error("Bits", a, a.Bits())
		}
	}
}

// P1.5 and P1.6
func TestTextParse(t *testing.T) {
	for _, a := range wides() {
		s := a.Text()
		if s != exact(a).String() {
			t.Error("Text", a, s)
		}
		if n, ok := Parse(s); n != a || !ok {
			t.Error("Parse", s, n, ok)
		}
	}
	for _, s := range []string{"", "01", "00", "-1", "+1", " 1", "1 ", "1a", "a", "0x1", "1_0", "٣",
		"340282366920938463463374607431768211456", "340282366920938463463374607431768211460", "400000000000000000000000000000000000000", "1000000000000000000000000000000000000000"} {
		if n, ok := Parse(s); ok || n != (Wide{}) {
			t.Error("Parse", s, n, ok)
		}
	}
}

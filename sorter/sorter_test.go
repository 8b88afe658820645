package sorter

import (
	"slices"
	"testing"

	"manciple/api"
	"manciple/share"
	"manciple/sums"
)

func expect(t *testing.T, got, want api.Errno, what string) {
	t.Helper()
	if got != want {
		t.Error(what, got, want)
	}
}

func order(t *testing.T, s *Sorter, want ...int64) {
	t.Helper()
	if got := s.Order(); !slices.Equal(got, want) {
		t.Error("Order", got, want)
	}
	first, ok := s.First()
	if ok != (len(want) > 0) || ok && first != want[0] || !ok && first != 0 {
		t.Error("First", first, ok)
	}
}

// P9.4: the example, and shares of equal value by number.
func TestExample(t *testing.T) {
	s := New()
	order(t, s)
	expect(t, s.Total(sums.Sums{10}), api.OK, "Total")
	expect(t, s.Put(1, 1), api.OK, "Put")
	expect(t, s.Put(2, 3), api.OK, "Put")
	expect(t, s.Give(1, sums.Sums{4}), api.OK, "Give")
	expect(t, s.Give(2, sums.Sums{9}), api.OK, "Give")
	order(t, s, 2, 1)
	expect(t, s.Put(-7, 1), api.OK, "Put")
	expect(t, s.Put(9, 2), api.OK, "Put")
	order(t, s, -7, 9, 2, 1)
	expect(t, s.Give(9, sums.Sums{8}), api.OK, "Give")
	order(t, s, -7, 2, 1, 9)
	if s.Long() != 4 {
		t.Error("Long", s.Long())
	}
}

// P9.1
func TestTotal(t *testing.T) {
	s := New()
	s.Put(1, 1)
	s.Put(2, 1)
	s.Give(1, sums.Sums{4, 1})
	s.Give(2, sums.Sums{2, 3})
	order(t, s, 1, 2) // without a total, all shares are equal
	expect(t, s.Total(sums.Sums{10, 100}), api.OK, "Total")
	order(t, s, 2, 1)
	expect(t, s.Total(sums.Sums{100, 10}), api.OK, "Total")
	order(t, s, 1, 2)
	for _, wrong := range []sums.Sums{{-1}, {0, api.Top + 1}, {0, 0, 0, -1}} {
		expect(t, s.Total(wrong), api.ErrArg, "Total")
	}
	order(t, s, 1, 2)
	if got, ok := s.Share(2); !ok || got != (share.Share{Part: api.Frac{Num: 3, Den: 10}, Weight: 1}) {
		t.Error("Share", got, ok)
	}
	expect(t, s.Total(sums.Sums{api.Top, api.Top, api.Top, api.Top}), api.OK, "Total")
}

// P9.2
func TestPutDropWeighWake(t *testing.T) {
	s := New()
	s.Total(sums.Sums{10})
	for _, weight := range []int64{0, -1, 1001} {
		expect(t, s.Put(1, weight), api.ErrArg, "Put")
		expect(t, s.Weigh(1, weight), api.ErrNone, "Weigh")
	}
	expect(t, s.Put(1, 1000), api.OK, "Put")
	expect(t, s.Put(1, 1), api.ErrThere, "Put")
	expect(t, s.Put(1, 0), api.ErrArg, "Put")
	expect(t, s.Weigh(1, 1001), api.ErrArg, "Weigh")
	expect(t, s.Drop(2), api.ErrNone, "Drop")
	expect(t, s.Wake(2, true), api.ErrNone, "Wake")
	expect(t, s.Put(2, 1), api.OK, "Put")
	s.Give(1, sums.Sums{1})
	s.Give(2, sums.Sums{1})
	order(t, s, 1, 2)
	expect(t, s.Weigh(1, 1), api.OK, "Weigh")
	expect(t, s.Weigh(2, 2), api.OK, "Weigh")
	order(t, s, 2, 1)
	expect(t, s.Wake(2, false), api.OK, "Wake")
	order(t, s, 1)
	expect(t, s.Weigh(2, 3), api.OK, "Weigh")
	expect(t, s.Give(2, sums.Sums{2}), api.OK, "Give")
	expect(t, s.Total(sums.Sums{20}), api.OK, "Total")
	order(t, s, 1)
	expect(t, s.Wake(2, false), api.OK, "Wake")
	expect(t, s.Wake(2, true), api.OK, "Wake")
	expect(t, s.Wake(2, true), api.OK, "Wake")
	order(t, s, 1, 2)
	if got, ok := s.Share(2); !ok || got != (share.Share{Part: api.Frac{Num: 3, Den: 20}, Weight: 3}) {
		t.Error("Share", got, ok)
	}
	expect(t, s.Drop(1), api.OK, "Drop")
	order(t, s, 2)
	if s.Long() != 1 {
		t.Error("Long")
	}
	expect(t, s.Put(1, 5), api.OK, "Put")
	if sum, ok := s.Sum(1); sum != (sums.Sums{}) || !ok {
		t.Error("a new client has nothing", sum, ok)
	}
}

// P9.3
func TestGiveTake(t *testing.T) {
	s := New()
	expect(t, s.Give(1, sums.Sums{-1}), api.ErrNone, "Give")
	expect(t, s.Take(1, sums.Sums{-1}), api.ErrNone, "Take")
	s.Put(1, 1)
	expect(t, s.Give(1, sums.Sums{-1}), api.ErrArg, "Give")
	expect(t, s.Give(1, sums.Sums{1<<60 + 1}), api.ErrArg, "Give")
	expect(t, s.Give(1, sums.Sums{api.Top, 5}), api.OK, "Give")
	expect(t, s.Give(1, sums.Sums{1, 0}), api.ErrArg, "Give")
	expect(t, s.Give(1, sums.Sums{0, api.Top - 4}), api.ErrArg, "Give")
	expect(t, s.Give(1, sums.Sums{0, api.Top - 5, 3}), api.OK, "Give")
	expect(t, s.Take(1, sums.Sums{0, 0, 4}), api.ErrShort, "Take")
	expect(t, s.Take(1, sums.Sums{-1}), api.ErrShort, "Take")
	expect(t, s.Take(1, sums.Sums{0, 1, 3}), api.OK, "Take")
	if sum, ok := s.Sum(1); sum != (sums.Sums{api.Top, api.Top - 1}) || !ok {
		t.Error("Sum", sum, ok)
	}
}

// P9.4
func TestNone(t *testing.T) {
	s := New()
	s.Put(1, 1)
	if sum, ok := s.Sum(2); sum != (sums.Sums{}) || ok {
		t.Error("Sum")
	}
	if got, ok := s.Share(2); got != (share.Share{}) || ok {
		t.Error("Share")
	}
	if got, ok := s.Share(1); got != (share.Share{Part: api.Frac{Num: 0, Den: 1}, Weight: 1}) || !ok {
		t.Error("Share", got, ok)
	}
}

// P9.4 and P9.6: the order is that of the shares, whatever happens.
func TestOrderIsThatOfShares(t *testing.T) {
	s := New()
	s.Total(sums.Sums{97, 89, 0, 5})
	for id := range int64(40) {
		s.Put(id, 1+id%7)
		s.Give(id, sums.Sums{id * 31 % 17, id * 13 % 29, id, id % 3})
		s.Wake(id, id%5 != 0)
	}
	check := func() []int64 {
		var want []int64
		for id := range int64(40) {
			if id%5 != 0 {
				want = append(want, id)
			}
		}
		slices.SortStableFunc(want, func(a, b int64) int {
			x, _ := s.Share(a)
			y, _ := s.Share(b)
			return x.Cmp(y)
		})
		order(t, s, want...)
		return want
	}
	before := check()
	for id := range int64(40) {
		s.Give(id, sums.Sums{id % 4, 60})
	}
	check()
	for id := range int64(40) {
		s.Take(id, sums.Sums{id % 4, 60})
	}
	if !slices.Equal(before, check()) {
		t.Error("not restored")
	}
}

// P9.5
func TestNil(t *testing.T) {
	for _, s := range []*Sorter{nil, {}} {
		for _, err := range []api.Errno{s.Total(sums.Sums{-1}), s.Put(1, 0), s.Drop(1), s.Weigh(1, 0), s.Wake(1, true), s.Give(1, sums.Sums{}), s.Take(1, sums.Sums{})} {
			expect(t, err, api.ErrNil, "nil")
		}
		sum, is := s.Sum(1)
		part, has := s.Share(1)
		if is || has || sum != (sums.Sums{}) || part != (share.Share{}) || s.Long() != 0 {
			t.Error("something is there")
		}
		order(t, s)
	}
}

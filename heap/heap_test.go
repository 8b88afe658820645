package heap

import (
	"cmp"
	"maps"
	"math"
	"math/bits"
	"slices"
	"testing"
)

// P11.1 and P11.2
func TestExample(t *testing.T) {
	h := New()
	if _, _, ok := h.Peek(); ok || h.Long() != 0 {
		t.Error("not empty")
	}
	if !h.Put(7, 30) || !h.Put(8, 20) || h.Put(7, 10) {
		t.Error("Put")
	}
	if at, ok := h.At(7); at != 10 || !ok {
		t.Error("At", at, ok)
	}
	if at, ok := h.At(9); at != 0 || ok {
		t.Error("At", at, ok)
	}
	if key, at, ok := h.Peek(); key != 7 || at != 10 || !ok || h.Long() != 2 {
		t.Error("Peek", key, at, ok)
	}
	if key, at, ok := h.Pop(); key != 7 || at != 10 || !ok || h.Long() != 1 {
		t.Error("Pop", key, at, ok)
	}
	if h.Drop(7) || !h.Drop(8) || h.Drop(8) {
		t.Error("Drop")
	}
	if key, at, ok := h.Pop(); key != 0 || at != 0 || ok {
		t.Error("Pop of nothing", key, at, ok)
	}
}

// P11.2: equal times by key, and any numbers as keys and times
func TestOrder(t *testing.T) {
	h := New()
	h.Put(3, 5)
	h.Put(-3, 5)
	h.Put(math.MinInt64, 5)
	h.Put(math.MaxInt64, math.MinInt64)
	h.Put(0, math.MaxInt64)
	if due := h.Due(4); !slices.Equal(due, []int64{math.MaxInt64}) {
		t.Error(due)
	}
	if due := h.Due(4); len(due) > 0 {
		t.Error(due)
	}
	if due := h.Due(math.MaxInt64); !slices.Equal(due, []int64{math.MinInt64, -3, 3, 0}) || h.Long() != 0 {
		t.Error(due)
	}
}

// sorted returns the keys of times in order.
func sorted(times map[int64]int64) []int64 {
	keys := slices.Collect(maps.Keys(times))
	slices.SortFunc(keys, func(a, b int64) int {
		return cmp.Or(cmp.Compare(times[a], times[b]), cmp.Compare(a, b))
	})
	return keys
}

// P11.1, P11.2, P11.3 and P11.5, against a map
func TestMany(t *testing.T) {
	h, times := New(), map[int64]int64{}
	calls, longest, seed := 0, 0, uint64(1)
	random := func(n uint64) int64 {
		seed = seed*6364136223846793005 + 1442695040888963407
		return int64(seed >> 33 % n)
	}
	check := func() {
		t.Helper()
		longest = max(longest, h.Long())
		if h.Steps() > calls*2*bits.Len(uint(longest+1)) {
			t.Fatal("Steps", h.Steps(), calls, longest)
		}
	}
	for i := range 20000 {
		key := random(300)
		_, there := times[key]
		switch random(8) {
		case 0:
			if h.Drop(key) != there {
				t.Fatal("Drop", key)
			}
			if there {
				calls++
			}
			delete(times, key)
		case 1:
			due := h.Due(random(50))
			if !slices.Equal(due, sorted(times)[:len(due)]) {
				t.Fatal("Due", due)
			}
			if len(due) > 0 {
				calls++
			}
			for _, k := range due {
				delete(times, k)
			}
		case 2:
			key, at, ok := h.Pop()
			if ok != (len(times) > 0) || ok && (sorted(times)[0] != key || times[key] != at) {
				t.Fatal("Pop", key, at, ok)
			}
			if ok {
				calls++
				delete(times, key)
			}
		default:
			at := random(1000)
			if h.Put(key, at) == there {
				t.Fatal("Put", key)
			}
			if !there {
				calls++
			}
			times[key] = at
		}
		check()
		if at, ok := h.At(key); at != times[key] || h.Long() != len(times) {
			t.Fatal("At", i, key, at, ok)
		}
	}
	for _, key := range sorted(times) {
		want := times[key]
		if k, at, ok := h.Pop(); k != key || at != want || !ok {
			t.Fatal("Pop", k, at, key)
		}
		calls++
		check()
	}
}

// P11.3: ascending, descending, and all taken out at once
func TestSteps(t *testing.T) {
	for _, step := range []int64{1, -1, 389} {
		h := New()
		for i := range int64(1000) {
			h.Put(i, i*step%1000)
		}
		moves := h.Steps()
		if step == -1 && moves <= 0 || moves < 0 {
			t.Error("keys were moved", moves)
		}
		h.Due(math.MaxInt64)
		if h.Steps() > 1001*2*bits.Len(1001) || h.Steps() <= moves {
			t.Error(step, h.Steps())
		}
	}
}

// P11.4
func TestNil(t *testing.T) {
	for _, h := range []*Heap{nil, {}} {
		at, has := h.At(0)
		key, first, ok := h.Peek()
		out, when, popped := h.Pop()
		if h.Put(1, 1) || h.Drop(1) || has || ok || popped || at != 0 || key != 0 || first != 0 || out != 0 || when != 0 {
			t.Error("something is there")
		}
		if len(h.Due(5)) > 0 || h.Long() != 0 || h.Steps() != 0 {
			t.Error("something is there")
		}
	}
}

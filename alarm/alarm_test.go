package alarm

import (
	"cmp"
	"maps"
	"math"
	"slices"
	"testing"
)

// sorted returns the keys of times in order.
func sorted(times map[Key]int64) []Key {
	keys := slices.Collect(maps.Keys(times))
	slices.SortFunc(keys, func(a, b Key) int {
		return cmp.Or(cmp.Compare(times[a], times[b]), a.What-b.What, cmp.Compare(a.A, b.A), cmp.Compare(a.B, b.B))
	})
	return keys
}

// P12.1 and P12.3
func TestExample(t *testing.T) {
	a := New()
	if len(a.All()) > 0 || len(a.Due(math.MaxInt64)) > 0 {
		t.Error("not empty")
	}
	first, second := Key{2, 5, 0}, Key{1, 9, 9}
	if !a.Set(first, 10) || !a.Set(second, 10) || a.Set(first, 10) {
		t.Error("Set")
	}
	if len(a.Due(9)) > 0 {
		t.Error("too early")
	}
	if all := a.All(); !slices.Equal(all, []Key{second, first}) {
		t.Error("All", all)
	}
	if due := a.Due(10); !slices.Equal(due, []Key{second, first}) || len(a.All()) > 0 {
		t.Error("Due", due)
	}
	if !a.Set(first, 3) {
		t.Error("Set of what fell due")
	}
}

// P12.1
func TestSetDropAt(t *testing.T) {
	a := New()
	k := Key{1, -2, math.MinInt64}
	if a.Drop(k) {
		t.Error("Drop")
	}
	if at, ok := a.At(k); at != 0 || ok {
		t.Error("At", at, ok)
	}
	a.Set(k, -7)
	if at, ok := a.At(k); at != -7 || !ok {
		t.Error("At", at, ok)
	}
	if a.Set(k, 8) {
		t.Error("it was there")
	}
	if at, ok := a.At(k); at != 8 || !ok {
		t.Error("At", at, ok)
	}
	if _, ok := a.At(Key{1, -2, 0}); ok {
		t.Error("another key")
	}
	if !a.Drop(k) || a.Drop(k) || len(a.All()) > 0 || len(a.Due(math.MaxInt64)) > 0 {
		t.Error("Drop")
	}
}

// P12.2
func TestForget(t *testing.T) {
	a := New()
	for b := range int64(5) {
		a.Set(Key{1, 7, b}, b)
		a.Set(Key{1, 8, b}, b)
		a.Set(Key{2, 7, b}, b)
	}
	if n := a.Forget(1, 7); n != 5 {
		t.Error(n)
	}
	if n := a.Forget(1, 7); n != 0 {
		t.Error(n)
	}
	if n := a.Forget(7, 1); n != 0 || len(a.All()) != 10 {
		t.Error(n)
	}
	if due := a.Due(0); !slices.Equal(due, []Key{{1, 8, 0}, {2, 7, 0}}) {
		t.Error(due)
	}
}

// P12.1, P12.3 and P12.5, against a map
func TestMany(t *testing.T) {
	a, times := New(), map[Key]int64{}
	seed := uint64(7)
	random := func(n uint64) int64 {
		seed = seed*6364136223846793005 + 1442695040888963407
		return int64(seed >> 33 % n)
	}
	now := int64(0)
	for range 5000 {
		k := Key{int(random(3)), random(4), random(9) - 4}
		_, there := times[k]
		switch random(6) {
		case 0:
			if a.Drop(k) != there {
				t.Fatal("Drop", k)
			}
			delete(times, k)
		case 1:
			now += random(3)
			var want []Key
			for _, k := range sorted(times) {
				if times[k] <= now {
					want = append(want, k)
				}
			}
			if due := a.Due(now); !slices.Equal(due, want) {
				t.Fatal("Due", due, want)
			}
			for _, k := range want {
				delete(times, k)
			}
		default:
			at := now + random(20)
			if a.Set(k, at) == there {
				t.Fatal("Set", k)
			}
			times[k] = at
		}
		if all := a.All(); !slices.Equal(all, sorted(times)) {
			t.Fatal("All", all)
		}
	}
}

// P12.4
func TestNil(t *testing.T) {
	for _, a := range []*Alarms{nil, {}} {
		at, ok := a.At(Key{})
		if a.Set(Key{}, 1) || a.Drop(Key{}) || ok || at != 0 || a.Forget(0, 0) != 0 || len(a.Due(9)) > 0 || len(a.All()) > 0 {
			t.Error("something is there")
		}
	}
}

package tree

import (
	"cmp"
	"math/bits"
	"slices"
	"testing"
)

// check holds all that a tree tells against a sorted list.
func check(t *testing.T, tr *Tree[int], want []int) {
	t.Helper()
	if got := tr.All(); !slices.Equal(got, want) {
		t.Fatal("All", got, want)
	}
	if tr.Long() != len(want) {
		t.Fatal("Long", tr.Long(), len(want))
	}
	if tr.Deep() > 2*bits.Len(uint(len(want)+1)) || (tr.Deep() == 0) != (len(want) == 0) || tr.Deep() < bits.Len(uint(len(want))) {
		t.Fatal("Deep", tr.Deep(), len(want))
	}
	for i, k := range want {
		if got, ok := tr.At(i); got != k || !ok || tr.Place(k) != i || !tr.Has(k) {
			t.Fatal("At, Place, Has", i, k, got, ok)
		}
	}
	for _, i := range []int{-1, len(want), -1 << 63, 1<<63 - 1} {
		if got, ok := tr.At(i); got != 0 || ok {
			t.Fatal("At", i, got, ok)
		}
	}
	first, ok := tr.First()
	if ok != (len(want) > 0) || ok && first != want[0] || !ok && first != 0 {
		t.Fatal("First", first, ok)
	}
}

// P8.1 and P8.2
func TestExample(t *testing.T) {
	tr := New(cmp.Compare[int])
	check(t, tr, nil)
	for _, k := range []int{5, 1, 3} {
		if !tr.Put(k) {
			t.Error("Put", k)
		}
	}
	check(t, tr, []int{1, 3, 5})
	if tr.Put(3) || tr.Drop(4) || tr.Has(4) || tr.Place(4) != -1 {
		t.Error("3 is there, 4 is not")
	}
	check(t, tr, []int{1, 3, 5})
	if !tr.Drop(3) || tr.Drop(3) {
		t.Error("Drop")
	}
	check(t, tr, []int{1, 5})
	if New[int](nil) != nil {
		t.Error("New of nil")
	}
}

// P8.1: an equal element stays.
func TestEqualStays(t *testing.T) {
	tr := New(func(a, b [2]int) int { return cmp.Compare(a[0], b[0]) })
	tr.Put([2]int{1, 7})
	if tr.Put([2]int{1, 8}) || !tr.Has([2]int{1, 9}) {
		t.Error("Put of an equal one")
	}
	if k, _ := tr.First(); k != [2]int{1, 7} {
		t.Error(k)
	}
	if !tr.Drop([2]int{1, 9}) || tr.Long() != 0 {
		t.Error("Drop of an equal one")
	}
}

// P8.1 to P8.3 and P8.5, on many orders of insertion and removal.
func TestMany(t *testing.T) {
	for _, step := range []int{1, 999, 7, 613, 500} {
		tr := New(cmp.Compare[int])
		var want []int
		for i := range 1000 {
			k := i * step % 1000
			at, there := slices.BinarySearch(want, k)
			if tr.Put(k) == there {
				t.Fatal("Put", k)
			}
			if !there {
				want = slices.Insert(want, at, k)
			}
			if i%97 == 0 {
				check(t, tr, want)
			}
		}
		check(t, tr, want)
		tr.Put(5000)
		tr.Drop(5000)
		check(t, tr, want)
		for i := range 1000 {
			k := i * 389 % 1000
			at, there := slices.BinarySearch(want, k)
			if tr.Drop(k) != there {
				t.Fatal("Drop", k)
			}
			if there {
				want = slices.Delete(want, at, at+1)
			}
			if i%97 == 0 {
				check(t, tr, want)
			}
		}
		check(t, tr, nil)
	}
}

// P8.4
func TestNil(t *testing.T) {
	for _, tr := range []*Tree[int]{nil, {}} {
		if tr.Put(1) || tr.Drop(1) || tr.Has(1) || tr.Place(1) != -1 {
			t.Error("something is there")
		}
		check(t, tr, nil)
	}
}

// Definitions: with an inconsistent order, the methods return.
func TestInconsistentOrders(t *testing.T) {
	count, inside := 0, false
	var tr *Tree[int]
	for _, order := range []func(a, b int) int{
		func(a, b int) int { return 1 },
		func(a, b int) int { return -1 },
		func(a, b int) int { count++; return count%3 - 1 },
		func(a, b int) int { panic("no order") },
		func(a, b int) int {
			if !inside {
				inside = true
				tr.Drop(a)
				tr.Put(b + 100)
				inside = false
			}
			return cmp.Compare(a, b)
		},
	} {
		tr = New(order)
		for i := range 60 {
			tr.Put(i % 40)
			tr.Drop(i % 7)
			tr.Has(i)
			tr.Place(i)
			tr.At(i)
			tr.First()
		}
		tr.All()
		tr.Deep()
		tr.Long()
	}
}

// Rule 4: All is a new list.
func TestAllIsNew(t *testing.T) {
	tr := New(cmp.Compare[int])
	tr.Put(1)
	tr.Put(2)
	l := tr.All()
	l[0] = 9
	check(t, tr, []int{1, 2})
}

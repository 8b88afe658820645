package queue

import (
	"math"
	"slices"
	"testing"

	"manciple/api"
)

// ev is an event that carries a number.
func ev(frame, n int64) api.Event {
	return api.Event{Kind: api.EvOffered, Frame: frame, ID: n, Agent: 1, Vec: []api.Part{{Amount: n}}}
}

func ids(l []api.Event) []int64 {
	var out []int64
	for _, e := range l {
		out = append(out, e.ID)
	}
	return out
}

func expect(t *testing.T, got []api.Event, want ...int64) {
	t.Helper()
	if !slices.Equal(ids(got), want) {
		t.Error(ids(got), want)
	}
}

// P28.1 and P28.2
func TestExample(t *testing.T) {
	if New(0) != nil || New(-1) != nil || New(math.MinInt) != nil || New(math.MaxInt) == nil {
		t.Error("New")
	}
	q := New(2)
	if !q.Open(5) || q.Open(5) {
		t.Error("Open")
	}
	if n := q.Put(ev(5, 1), ev(6, 2), ev(5, 3), ev(5, 4)); n != 3 {
		t.Error("Put", n)
	}
	if q.Long(5) != 2 || q.Lost(5) != 1 || q.Long(6) != 0 || q.Lost(6) != 0 {
		t.Error(q.Long(5), q.Lost(5))
	}
	if q.Open(5) || q.Long(5) != 2 || q.Lost(5) != 1 {
		t.Error("Open of an open queue")
	}
	l := q.Take(5, 9)
	expect(t, l, 3, 4)
	if e := l[0]; e.Kind != api.EvOffered || e.Frame != 5 || e.Agent != 1 || e.Vec[0].Amount != 3 {
		t.Error(e)
	}
	expect(t, q.Take(5, 9))
	if q.Lost(5) != 1 || !q.Shut(5) || q.Shut(5) || q.Lost(5) != 0 {
		t.Error("Shut")
	}
	if q.Put(ev(5, 7)) != 0 || !q.Open(5) || q.Long(5) != 0 || q.Lost(5) != 0 {
		t.Error("a queue that was opened again is empty")
	}
}

// P28.2
func TestTake(t *testing.T) {
	q := New(10)
	q.Open(1)
	q.Put(ev(1, 1), ev(1, 2), ev(1, 3), ev(1, 4))
	for _, n := range []int{0, -1, math.MinInt} {
		expect(t, q.Take(1, n))
	}
	expect(t, q.Take(2, 1))
	expect(t, q.Take(1, 1), 1)
	expect(t, q.Take(1, 2), 2, 3)
	q.Put(ev(1, 5))
	expect(t, q.Take(1, math.MaxInt), 4, 5)
	if q.Put() != 0 {
		t.Error("Put of nothing")
	}
}

// P28.3
func TestThose(t *testing.T) {
	q := New(1)
	for _, frame := range []int64{5, -1, 9, 0, math.MaxInt64} {
		q.Open(frame)
	}
	q.Shut(9)
	if !slices.Equal(q.Those(), []int64{-1, 0, 5, math.MaxInt64}) {
		t.Error(q.Those())
	}
	if q.Put(ev(0, 1), ev(-1, 2)) != 2 || q.Long(0) != 1 || q.Long(-1) != 1 {
		t.Error("any numbers")
	}
}

// P28.5
func TestMany(t *testing.T) {
	q := New(7)
	q.Open(1)
	q.Open(2)
	seen := map[int64]int64{}
	counts := map[int64]int{}
	for n := int64(1); n <= 1000; n++ {
		q.Put(ev(1, n), ev(2, n))
		for frame := int64(1); frame <= 2; frame++ {
			if n%(4*frame) != 0 {
				continue
			}
			for _, e := range q.Take(frame, int(n%9)) {
				if e.ID <= seen[frame] {
					t.Fatal("order", e.ID, seen[frame])
				}
				seen[frame] = e.ID
				counts[frame]++
			}
			if counts[frame]+q.Long(frame)+q.Lost(frame) != int(n) {
				t.Fatal("count", n)
			}
		}
	}
	if q.Lost(1) == 0 || counts[1] == 0 {
		t.Error("nothing happened")
	}
}

// Rule 4: nothing is shared.
func TestNothingIsShared(t *testing.T) {
	q := New(7)
	q.Open(1)
	e := ev(1, 5)
	q.Put(e, ev(1, 6), ev(1, 7))
	e.Vec[0].Amount = 9
	l := q.Take(1, 1)
	if l[0].Vec[0].Amount != 5 {
		t.Error(l)
	}
	_ = append(l, ev(1, 99))
	expect(t, q.Take(1, 3), 6, 7)
}

// P28.4
func TestNil(t *testing.T) {
	for _, q := range []*Queues{nil, {}} {
		if q.Open(1) || q.Shut(1) || q.Put(ev(1, 1)) != 0 || q.Long(1)+q.Lost(1) != 0 {
			t.Error("something is there")
		}
		expect(t, q.Take(1, 1))
		if len(q.Those()) > 0 {
			t.Error(q.Those())
		}
	}
}

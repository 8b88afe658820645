package tiers

import (
	"cmp"
	"slices"
	"testing"

	"manciple/api"
	"manciple/share"
	"manciple/sums"
)

type pair struct {
	role  int
	frame int64
}

func expect(t *testing.T, got, want api.Errno, what string) {
	t.Helper()
	if got != want {
		t.Error(what, got, want)
	}
}

func walk(t *testing.T, ti *Tiers, want ...pair) {
	t.Helper()
	var got []pair
	for role, frame := range ti.Walk() {
		got = append(got, pair{role, frame})
	}
	if !slices.Equal(got, want) {
		t.Error("Walk", got, want)
	}
}

func part(num, den, weight int64) share.Share {
	return share.Share{Part: api.Frac{Num: num, Den: den}, Weight: weight}
}

// P10.5: the example
func TestExample(t *testing.T) {
	ti := New()
	walk(t, ti)
	expect(t, ti.Total(sums.Sums{10}), api.OK, "Total")
	expect(t, ti.Put(1, 1, 1), api.OK, "Put")
	expect(t, ti.Put(2, 1, 1), api.OK, "Put")
	expect(t, ti.Put(3, 2, 1), api.OK, "Put")
	expect(t, ti.Give(1, sums.Sums{3}), api.OK, "Give")
	expect(t, ti.Give(3, sums.Sums{2}), api.OK, "Give")
	walk(t, ti, pair{2, 3}, pair{1, 2}, pair{1, 1})
	for _, c := range []struct {
		some []int64
		want int64
		ok   bool
	}{{nil, 0, false}, {[]int64{1, 2}, 2, true}, {[]int64{1, 3, 3, 2}, 3, true}, {[]int64{9}, 0, false}, {[]int64{9, 1, -1}, 1, true}} {
		if got, ok := ti.Pick(c.some...); got != c.want || ok != c.ok {
			t.Error("Pick", c, got, ok)
		}
	}
}

// P10.5: who ranges may stop, and a role without an awake framework is left out.
func TestWalkStops(t *testing.T) {
	ti := New()
	ti.Put(1, 5, 1)
	ti.Put(2, 5, 1)
	ti.Put(3, 4, 1)
	for role, frame := range ti.Walk() {
		if role != 4 || frame != 3 {
			t.Error(role, frame)
		}
		break
	}
	expect(t, ti.Wake(3, false), api.OK, "Wake")
	expect(t, ti.Wake(1, false), api.OK, "Wake")
	walk(t, ti, pair{5, 2})
	if got, ok := ti.Pick(1, 3); got != 0 || ok {
		t.Error("Pick", got, ok)
	}
	expect(t, ti.Wake(1, true), api.OK, "Wake")
	walk(t, ti, pair{5, 1}, pair{5, 2})
	for _, frame := range ti.Walk() {
		ti.Drop(frame)
		ti.Drop(2)
	}
	walk(t, ti)
}

// P10.1
func TestTotal(t *testing.T) {
	ti := New()
	expect(t, ti.Total(sums.Sums{-1}), api.ErrArg, "Total")
	expect(t, ti.Total(sums.Sums{0, api.Top + 1}), api.ErrArg, "Total")
	ti.Put(1, 1, 7)
	ti.Give(1, sums.Sums{3, 2})
	expect(t, ti.Total(sums.Sums{9, 5}), api.OK, "Total")
	ti.Put(2, 2, 1)
	expect(t, ti.Total(sums.Sums{9, -5}), api.ErrArg, "Total")
	role, _ := ti.Share(1)
	own, _ := ti.Own(1)
	late, _ := ti.Own(2)
	if role != part(2, 5, 7) || own != part(2, 5, 1) || late != part(0, 9, 1) {
		t.Error(role, own, late)
	}
	ti.Total(sums.Sums{3, 9})
	role, _ = ti.Share(1)
	own, _ = ti.Own(1)
	if role != part(3, 3, 7) || own != part(3, 3, 1) {
		t.Error(role, own)
	}
}

// P10.2
func TestPutDrop(t *testing.T) {
	ti := New()
	ti.Total(sums.Sums{10})
	for _, c := range []struct {
		role   int
		weight int64
	}{{0, 1}, {33, 1}, {-1, 1}, {1, 0}, {1, 1001}, {1, -1}} {
		expect(t, ti.Put(1, c.role, c.weight), api.ErrArg, "Put")
	}
	expect(t, ti.Put(1, 32, 1000), api.OK, "Put")
	expect(t, ti.Put(1, 0, 1000), api.ErrArg, "Put")
	expect(t, ti.Put(1, 32, 7), api.ErrThere, "Put")
	expect(t, ti.Put(2, 32, 7), api.ErrWeight, "Put")
	expect(t, ti.Put(2, 32, 1000), api.OK, "Put")
	expect(t, ti.Drop(3), api.ErrNone, "Drop")
	expect(t, ti.Wake(3, true), api.ErrNone, "Wake")
	ti.Give(1, sums.Sums{4})
	ti.Give(2, sums.Sums{5})
	if role, ok := ti.Role(2); role != 32 || !ok {
		t.Error("Role", role, ok)
	}
	if weight, ok := ti.Weight(32); weight != 1000 || !ok {
		t.Error("Weight", weight, ok)
	}
	expect(t, ti.Drop(1), api.OK, "Drop")
	if got, ok := ti.Share(32); got != part(5, 10, 1000) || !ok {
		t.Error("Share", got, ok)
	}
	expect(t, ti.Drop(2), api.OK, "Drop")
	role, is := ti.Role(2)
	weight, has := ti.Weight(32)
	if is || has || role != 0 || weight != 0 {
		t.Error("role 32 is there")
	}
	expect(t, ti.Put(2, 32, 7), api.OK, "Put")
	if got, ok := ti.Share(32); got != part(0, 10, 7) || !ok {
		t.Error("Share", got, ok)
	}
	walk(t, ti, pair{32, 2})
}

// P10.3
func TestGiveTake(t *testing.T) {
	ti := New()
	ti.Total(sums.Sums{10, 10})
	expect(t, ti.Give(1, sums.Sums{-1}), api.ErrNone, "Give")
	expect(t, ti.Take(1, sums.Sums{-1}), api.ErrNone, "Take")
	ti.Put(1, 3, 2)
	ti.Put(2, 3, 2)
	expect(t, ti.Give(1, sums.Sums{-1}), api.ErrArg, "Give")
	expect(t, ti.Give(1, sums.Sums{0, api.Top + 1}), api.ErrArg, "Give")
	expect(t, ti.Give(1, sums.Sums{5, api.Top - 2}), api.OK, "Give")
	expect(t, ti.Give(2, sums.Sums{0, 3}), api.ErrArg, "Give")
	expect(t, ti.Give(2, sums.Sums{1, 2}), api.OK, "Give")
	expect(t, ti.Take(2, sums.Sums{2, 0}), api.ErrShort, "Take")
	expect(t, ti.Take(2, sums.Sums{-1, 0}), api.ErrShort, "Take")
	expect(t, ti.Take(1, sums.Sums{1, api.Top - 2}), api.OK, "Take")
	role, _ := ti.Share(3)
	one, _ := ti.Own(1)
	two, _ := ti.Own(2)
	if role != part(5, 10, 2) || one != part(4, 10, 1) || two != part(2, 10, 1) {
		t.Error(role, one, two)
	}
}

// P10.4
func TestNone(t *testing.T) {
	ti := New()
	ti.Put(1, 2, 3)
	role, is := ti.Share(1)
	own, has := ti.Own(2)
	if is || has || role != (share.Share{}) || own != (share.Share{}) {
		t.Error("there is no role 1 and no framework 2")
	}
	if got, ok := ti.Share(2); got != part(0, 1, 3) || !ok {
		t.Error(got, ok)
	}
}

// P10.4 and P10.5: the order is that of the shares.
func TestOrderIsThatOfShares(t *testing.T) {
	ti := New()
	ti.Total(sums.Sums{101, 211, 7, 0})
	var want []pair
	for frame := range int64(60) {
		role := int(frame%9) + 1
		ti.Put(frame, role, int64(role%4+1))
		ti.Give(frame, sums.Sums{frame * 7 % 13, frame * 3 % 31, frame % 2, 5})
		ti.Wake(frame, frame%4 != 1)
		if frame%4 != 1 {
			want = append(want, pair{role, frame})
		}
	}
	slices.SortFunc(want, func(a, b pair) int {
		x, _ := ti.Share(a.role)
		y, _ := ti.Share(b.role)
		v, _ := ti.Own(a.frame)
		w, _ := ti.Own(b.frame)
		return cmp.Or(x.Cmp(y), a.role-b.role, v.Cmp(w), cmp.Compare(a.frame, b.frame))
	})
	walk(t, ti, want...)
}

// Rule 4: Pick leaves its arguments as they are.
func TestPickLeavesArguments(t *testing.T) {
	ti := New()
	ti.Put(1, 2, 3)
	some := []int64{5, 1, 3}
	ti.Pick(some...)
	if !slices.Equal(some, []int64{5, 1, 3}) {
		t.Error(some)
	}
}

// P10.6
func TestNil(t *testing.T) {
	for _, ti := range []*Tiers{nil, {}} {
		for _, err := range []api.Errno{ti.Total(sums.Sums{}), ti.Put(1, 0, 0), ti.Drop(1), ti.Wake(1, true), ti.Give(1, sums.Sums{}), ti.Take(1, sums.Sums{})} {
			expect(t, err, api.ErrNil, "nil")
		}
		role, is := ti.Role(1)
		weight, weighs := ti.Weight(1)
		of, has := ti.Share(1)
		own, owns := ti.Own(1)
		picked, picks := ti.Pick(0, 1)
		if is || weighs || has || owns || picks || role != 0 || weight != 0 || picked != 0 || of != (share.Share{}) || own != (share.Share{}) {
			t.Error("something is there")
		}
		walk(t, ti)
	}
}

package fill

import (
	"math"
	"slices"
	"testing"

	"manciple/api"
	"manciple/drive"
	"manciple/samples"
	"manciple/vec"
)

func v(s string) []api.Part {
	l, ok := vec.Parse(s)
	if !ok {
		panic(s)
	}
	return l
}

// example is that of the chapter.
func example() ([]api.Part, []drive.Want) {
	return v("cpus:9,mem:18"), []drive.Want{{Weight: 1, Need: v("cpus:1,mem:4")}, {Weight: 1, Need: v("cpus:3,mem:1")}}
}

// others are agents and wants that are not valid, each with its error.
func others() []struct {
	total []api.Part
	wants []drive.Want
	err   api.Errno
} {
	total, wants := example()
	type other = struct {
		total []api.Part
		wants []drive.Want
		err   api.Errno
	}
	return []other{
		{nil, wants, api.ErrArg}, {v("cpus(1):9"), wants, api.ErrArg}, {[]api.Part{{}}, wants, api.ErrArg}, {total, nil, api.ErrArg},
		{total, []drive.Want{{Weight: 0, Need: v("cpus:1")}}, api.ErrArg}, {total, []drive.Want{{Weight: 1}}, api.ErrArg},
		{total, slices.Repeat(wants, 17), api.ErrArg}, {total, []drive.Want{{Weight: 1, Need: v("cpus:0.001")}}, api.ErrCap},
	}
}

// P37.1
func TestNext(t *testing.T) {
	total, wants := example()
	for _, c := range []struct {
		seq, want []int
	}{
		{nil, []int{0, 1}}, {[]int{0}, []int{1}}, {[]int{1}, []int{0}}, {[]int{0, 1}, []int{0}}, {[]int{0, 1, 0}, []int{1}}, {[]int{0, 0, 0}, []int{1}}, {[]int{0, 1, 0, 1}, []int{0}},
		{[]int{0, 1, 0, 1, 0}, nil}, {[]int{0, 0, 0, 0}, []int{1}}, {[]int{1, 1, 0}, []int{0}}, {[]int{1, 1, 1}, nil}, {[]int{0, 0, 0, 0, 0}, nil}, {[]int{2}, nil}, {[]int{-1}, nil}, {[]int{0, math.MaxInt}, nil},
	} {
		if got := Next(total, wants, c.seq); !slices.Equal(got, c.want) {
			t.Error(c, got)
		}
	}
	wants = append(wants, drive.Want{Weight: 2, Need: v("cpus:2")}, drive.Want{Weight: 1, Need: v("cpus:1")})
	if got := Next(total, wants, []int{0, 1, 2, 3}); !slices.Equal(got, []int{2, 3}) { // 2/9 with the weight 2 is as much as 1/9
		t.Error(got)
	}
	for i, c := range others() {
		if got := Next(c.total, c.wants, nil); len(got) > 0 {
			t.Error(i, got)
		}
	}
}

// P37.2
func TestFill(t *testing.T) {
	total, wants := example()
	if seq, err := Fill(total, wants); err != api.OK || !slices.Equal(seq, []int{0, 1, 0, 1, 0}) {
		t.Error(seq, err)
	}
	wants[0].Weight = 3
	if seq, err := Fill(total, wants); err != api.OK || !slices.Equal(seq, []int{0, 1, 0, 0, 0}) {
		t.Error(seq, err)
	}
	if seq, err := Fill(total, []drive.Want{{Weight: 1, Need: v("gpus:1")}}); err != api.OK || len(seq) > 0 {
		t.Error(seq, err)
	}
	for i, c := range others() {
		if seq, err := Fill(c.total, c.wants); err != c.err || len(seq) > 0 {
			t.Error(i, seq, err)
		}
	}
}

// P37.3
func TestValid(t *testing.T) {
	total, wants := example()
	for _, c := range []struct {
		seq []int
		n   int
		ok  bool
	}{
		{nil, 0, false}, {[]int{0, 1, 0, 1, 0}, 5, true}, {[]int{1, 0, 0, 1, 0}, 5, true}, {[]int{0, 1, 0, 1}, 4, false}, {[]int{0, 1, 0, 1, 0, 0}, 5, false},
		{[]int{0, 0, 1}, 1, false}, {[]int{2, 0}, 0, false}, {[]int{0, -1}, 1, false}, {[]int{0, 1, 0, 1, 0, math.MinInt}, 5, false},
	} {
		if n, ok := Valid(total, wants, c.seq); n != c.n || ok != c.ok {
			t.Error(c, n, ok)
		}
	}
	if n, ok := Valid(total, []drive.Want{{Weight: 1, Need: v("gpus:1")}}, nil); n != 0 || !ok {
		t.Error("nothing fits", n, ok)
	}
	for i, c := range others() {
		if n, ok := Valid(c.total, c.wants, nil); n != 0 || ok {
			t.Error(i, n, ok)
		}
	}
}

// P37.3
func TestCounts(t *testing.T) {
	if got := Counts(3, []int{0, 2, 0, 3, -1, 0, math.MaxInt}); !slices.Equal(got, []int64{3, 0, 1}) {
		t.Error(got)
	}
	if got := Counts(1, nil); !slices.Equal(got, []int64{0}) {
		t.Error(got)
	}
	if len(Counts(4096, nil)) != 4096 || len(Counts(4097, nil)) > 0 || len(Counts(0, nil)) > 0 || len(Counts(-1, nil)) > 0 || len(Counts(math.MinInt, nil)) > 0 {
		t.Error("Counts")
	}
}

// P37.4
func TestSettled(t *testing.T) {
	for seed := range samples.Source(300) {
		s := seed
		p := drive.Profile{Agents: [][]api.Part{{{Kind: 0, Amount: int64(20 + s.Below(60))}, {Kind: 2, Amount: int64(20 + s.Below(60))}}}}
		for range 1 + s.Below(6) {
			p.Wants = append(p.Wants, drive.Want{Weight: int64(1 + s.Below(3)), Need: []api.Part{{Kind: 0, Amount: int64(1 + s.Below(9))}, {Kind: 2, Amount: int64(1 + s.Below(9))}}})
		}
		r, err := drive.Settle(p, nil)
		if err != api.OK {
			t.Fatal(err)
		}
		var seq []int
		for _, g := range r.Grants {
			if g.Launched {
				seq = append(seq, g.Frame)
			}
		}
		if n, ok := Valid(p.Agents[0], p.Wants, seq); n != len(seq) || !ok {
			t.Fatal(p, seq, n, ok)
		}
		filled, _ := Fill(p.Agents[0], p.Wants)
		if n, ok := Valid(p.Agents[0], p.Wants, filled); n != len(filled) || !ok {
			t.Fatal(p, filled, n, ok)
		}
		for i, n := range Counts(len(p.Wants), seq) {
			if n != r.Tasks[i][0] {
				t.Fatal("Counts", i, n)
			}
		}
	}
}

package bound

import (
	"math"
	"math/big"
	"slices"
	"testing"

	"manciple/api"
	"manciple/drive"
	"manciple/samples"
	"manciple/sums"
	"manciple/vec"
)

const most = math.MaxInt64

func v(s string) []api.Part {
	l, ok := vec.Parse(s)
	if !ok {
		panic(s)
	}
	return l
}

func frac(num, den int64) api.Frac { return api.Frac{Num: num, Den: den} }

// small returns a rational number as a fraction; false if one of its numbers is too great.
func small(r *big.Rat) (api.Frac, bool) {
	if !r.Num().IsInt64() || !r.Denom().IsInt64() {
		return api.Frac{}, false
	}
	return frac(r.Num().Int64(), r.Denom().Int64()), true
}

// P36.1
func TestSum(t *testing.T) {
	for _, c := range []struct {
		l    []api.Frac
		want api.Frac
		ok   bool
	}{
		{nil, frac(0, 1), true},
		{[]api.Frac{frac(0, 7)}, frac(0, 1), true},
		{[]api.Frac{frac(6, 4)}, frac(3, 2), true},
		{[]api.Frac{frac(2, 9), frac(1, 3)}, frac(5, 9), true},
		{[]api.Frac{frac(1, 6), frac(1, 3)}, frac(1, 2), true},
		{[]api.Frac{frac(1, most), frac(most-1, most)}, frac(1, 1), true},
		{[]api.Frac{frac(most, 1)}, frac(most, 1), true},
		{[]api.Frac{frac(most, 1), frac(1, 1)}, api.Frac{}, false},
		{[]api.Frac{frac(most, 1), frac(1, 2)}, api.Frac{}, false},
		{[]api.Frac{frac(1, most), frac(1, most-1)}, api.Frac{}, false},
		{[]api.Frac{frac(1, most), frac(1, most-1), frac(most-1, most), frac(most-2, most-1)}, frac(2, 1), true},
		{[]api.Frac{frac(1, 2), {}}, api.Frac{}, false},
		{[]api.Frac{frac(-1, 2), frac(1, 2)}, api.Frac{}, false},
		{[]api.Frac{frac(1, 2), frac(1, -2)}, api.Frac{}, false},
	} {
		if got, ok := Sum(c.l...); got != c.want || ok != c.ok {
			t.Error(c, got, ok)
		}
	}
}

// P36.1, with numbers that are large in between
func TestSumIsExact(t *testing.T) {
	fits := 0
	for seed := range samples.Source(3000) {
		s := seed
		var l []api.Frac
		total := new(big.Rat)
		add := func(f api.Frac) {
			l = append(l, f)
			total.Add(total, big.NewRat(f.Num, f.Den))
		}
		for range 1 + s.Below(9) {
			den := int64(1+s.Below(1<<20)) << s.Below(43)
			num := int64(s.Below(1 << 30))
			add(frac(num, den))
			if num <= den && s.Below(3) > 0 {
				add(frac(den-num, den))
			}
		}
		want, ok := small(total)
		if got, is := Sum(l...); got != want || is != ok {
			t.Fatal(l, got, is, want, ok)
		}
		if ok {
			fits++
		}
	}
	if fits < 300 || fits > 2900 {
		t.Error(fits)
	}
}

// P36.1
func TestDelta(t *testing.T) {
	for _, c := range []struct {
		need, total sums.Sums
		want        api.Frac
		ok          bool
	}{
		{sums.Sums{1000, 4000}, sums.Sums{9000, 18000}, frac(2, 9), true},
		{sums.Sums{3000, 1000}, sums.Sums{9000, 18000}, frac(1, 3), true},
		{sums.Sums{}, sums.Sums{9000}, frac(0, 1), true},
		{sums.Sums{9000}, sums.Sums{9000}, frac(1, 1), true},
		{sums.Sums{9001}, sums.Sums{9000}, api.Frac{}, false},
		{sums.Sums{1, 1}, sums.Sums{9000}, api.Frac{}, false},
		{sums.Sums{}, sums.Sums{}, api.Frac{}, false},
		{sums.Sums{-1}, sums.Sums{9}, api.Frac{}, false},
		{sums.Sums{1}, sums.Sums{9, -1}, api.Frac{}, false},
		{sums.Sums{1}, sums.Sums{1<<60 + 1}, api.Frac{}, false},
	} {
		if got, ok := Delta(c.need, c.total); got != c.want || ok != c.ok {
			t.Error(c, got, ok)
		}
	}
}

// example is that of the chapter.
func example() drive.Profile {
	return drive.Profile{Agents: [][]api.Part{v("cpus:9,mem:18")}, Wants: []drive.Want{{Weight: 1, Need: v("cpus:1,mem:4")}, {Weight: 1, Need: v("cpus:3,mem:1")}}}
}

// others are profiles that are not single-agent profiles.
func others() []drive.Profile {
	var l []drive.Profile
	for _, change := range []func(p *drive.Profile){
		func(p *drive.Profile) { p.Agents = append(p.Agents, v("cpus:9,mem:18")) },
		func(p *drive.Profile) { p.Agents = nil },
		func(p *drive.Profile) { p.Wants[1].Need = v("cpus:9.001") },
		func(p *drive.Profile) { p.Wants[1].Need = v("gpus:1") },
		func(p *drive.Profile) { p.Wants[1].Weight = 0 },
		func(p *drive.Profile) { p.Wants[1].Need = v("cpus:0.001") },
	} {
		p := example()
		change(&p)
		l = append(l, p)
	}
	return l
}

// slack returns 1 minus the sum of all deltas, and the sum of all Weights.
func slack(p drive.Profile) (*big.Rat, *big.Rat) {
	rest, weights := big.NewRat(1, 1), new(big.Rat)
	for _, w := range p.Wants {
		d, _ := Delta(sums.Of(w.Need), sums.Of(p.Agents[0]))
		rest.Sub(rest, big.NewRat(d.Num, d.Den))
		weights.Add(weights, big.NewRat(w.Weight, 1))
	}
	return rest, weights
}

// P36.2
func TestFloor(t *testing.T) {
	for i := range 2 {
		if got, ok := Floor(example(), i); got != frac(2, 9) || !ok {
			t.Error(got, ok)
		}
	}
	for _, i := range []int{-1, 2, math.MinInt, math.MaxInt} {
		if got, ok := Floor(example(), i); got != (api.Frac{}) || ok {
			t.Error(i, got, ok)
		}
	}
	for n, p := range others() {
		if got, ok := Floor(p, 0); got != (api.Frac{}) || ok {
			t.Error(n, got, ok)
		}
	}
	p := example()
	p.Wants = append(p.Wants, drive.Want{Weight: 3, Need: v("cpus:4")})
	for i := range 3 {
		if got, ok := Floor(p, i); got != frac(0, 1) || !ok { // the deltas add up to 1
			t.Error(got, ok)
		}
	}
	p.Wants[2].Need = v("cpus:9")
	if got, ok := Floor(p, 2); got != frac(0, 1) || !ok {
		t.Error(got, ok)
	}
	p.Wants[2].Need = v("cpus:3.5")
	if got, ok := Floor(p, 2); got != frac(1, 30) || !ok {
		t.Error(got, ok)
	}
}

// P36.2: numbers that are too great
func TestFloorTooGreat(t *testing.T) {
	p := drive.Profile{
		Agents: [][]api.Part{v("cpus:9007199254740.881,mem:9007199254740.847,disk:9007199254740.761")},
		Wants:  []drive.Want{{Weight: 7, Need: v("cpus:100000000000")}, {Weight: 11, Need: v("mem:100000000000")}, {Weight: 13, Need: v("disk:100000000000")}},
	}
	if drive.Check(p) != api.OK {
		t.Fatal("not valid")
	}
	if got, ok := Floor(p, 1); ok || got != (api.Frac{}) {
		t.Error(got, ok)
	}
	r, _ := drive.Settle(p, nil)
	if l := Under(p, r); len(l) > 0 {
		t.Error(l)
	}
}

// P36.3: deltas whose denominators are great
func TestUnderGreat(t *testing.T) {
	for seed := range samples.Source(100) {
		s := seed
		p := drive.Profile{Agents: [][]api.Part{nil}}
		for kind := range 4 {
			p.Agents[0] = append(p.Agents[0], api.Part{Kind: kind, Amount: 1<<52 + int64(s.Below(1<<30))<<20 + int64(s.Below(1<<20))})
		}
		for i := range 4 {
			p.Wants = append(p.Wants, drive.Want{Weight: int64(1 + s.Below(3)), Need: []api.Part{{Kind: i, Amount: 1<<44 + int64(s.Below(1<<30))<<16}}})
		}
		rest, weights := slack(p)
		for i, w := range p.Wants {
			d, _ := Delta(sums.Of(w.Need), sums.Of(p.Agents[0]))
			bound := new(big.Rat).Mul(rest, big.NewRat(w.Weight, 1))
			bound.Quo(bound, weights)
			least := new(big.Rat).Quo(bound, big.NewRat(d.Num, d.Den))
			n := new(big.Int).Quo(least.Num(), least.Denom()).Int64()
			for tasks := n - 1; tasks <= n+1; tasks++ {
				r := result(4096, 4096, 4096, 4096)
				r.Tasks[i][0] = tasks
				has := new(big.Rat).Mul(big.NewRat(d.Num, d.Den), big.NewRat(tasks, 1))
				if got := Under(p, r); slices.Contains(got, i) != (has.Cmp(bound) <= 0) {
					t.Fatal(p, i, tasks, got)
				}
			}
		}
	}
}

// profile returns a small single-agent profile.
func profile(s *samples.Source) drive.Profile {
	vector := func(least, n int) []api.Part {
		var l []api.Part
		for kind := range 3 {
			if kind == 0 || s.Below(2) == 0 || least > 1 {
				l = append(l, api.Part{Kind: kind, Amount: int64(least + s.Below(n))})
			}
		}
		return l
	}
	p := drive.Profile{Agents: [][]api.Part{vector(30, 60)}}
	for range 1 + s.Below(5) {
		p.Wants = append(p.Wants, drive.Want{Weight: int64(1 + s.Below(3)), Need: vector(1, 12)})
	}
	return p
}

// P36.2, P36.3 and P36.5, on many profiles
func TestMany(t *testing.T) {
	under := 0
	for seed := range samples.Source(400) {
		s := seed
		p := profile(&s)
		rest, weights := slack(p)
		r, err := drive.Settle(p, nil)
		if err != api.OK || len(Under(p, r)) > 0 || len(Envy(p, r)) > 0 {
			t.Fatal(p, err, Under(p, r), Envy(p, r))
		}
		for i := range r.Tasks {
			r.Tasks[i][0] = max(0, r.Tasks[i][0]-int64(s.Below(8)))
		}
		var want []int
		for i, w := range p.Wants {
			bound := new(big.Rat).Mul(rest, big.NewRat(w.Weight, 1))
			bound.Quo(bound, weights)
			floor := bound
			if bound.Sign() < 0 {
				floor = new(big.Rat)
			}
			x, _ := small(floor)
			if got, ok := Floor(p, i); got != x || !ok {
				t.Fatal("Floor", p, i, got, x)
			}
			d, _ := Delta(sums.Of(w.Need), sums.Of(p.Agents[0]))
			if has := big.NewRat(d.Num*r.Tasks[i][0], d.Den); has.Cmp(bound) <= 0 {
				want = append(want, i)
				under++
			}
		}
		if got := Under(p, r); !slices.Equal(got, want) {
			t.Fatal("Under", p, got, want)
		}
	}
	if under == 0 {
		t.Error("nobody was under")
	}
}

func result(counts ...int64) drive.Result {
	var r drive.Result
	for _, n := range counts {
		r.Tasks = append(r.Tasks, []int64{n})
	}
	return r
}

// P36.3
func TestUnder(t *testing.T) {
	for _, c := range []struct {
		r    drive.Result
		want []int
	}{
		{result(3, 2), nil}, {result(0, 0), []int{0, 1}}, {result(1, 1), []int{0}}, {result(2, 1), nil}, {result(4096, 4096), nil},
		{result(4097, 0), nil}, {result(-1, 0), nil}, {result(0), nil}, {result(0, 0, 0), nil}, {drive.Result{}, nil}, {drive.Result{Tasks: [][]int64{{0}, {0, 0}}}, nil}, {drive.Result{Tasks: [][]int64{{0}, {}}}, nil},
	} {
		if got := Under(example(), c.r); !slices.Equal(got, c.want) {
			t.Error(c, got)
		}
	}
	for n, p := range others() {
		if got := Under(p, result(0, 0)); len(got) > 0 {
			t.Error(n, got)
		}
	}
	// The deltas add up to exactly 1, and to more.
	p := example()
	p.Wants[0].Need = v("cpus:6")
	if got := Under(p, result(0, 1)); !slices.Equal(got, []int{0}) {
		t.Error(got)
	}
	p.Wants[0].Need = v("cpus:7")
	if got := Under(p, result(0, 0)); len(got) > 0 {
		t.Error(got)
	}
}

// P36.4
func TestEnvy(t *testing.T) {
	grant := func(frame int, launched bool, s string) drive.Grant {
		return drive.Grant{Frame: frame, Launched: launched, Offered: v(s)}
	}
	one, two := grant(0, true, "cpus:9,mem:18"), grant(1, true, "cpus:9,mem:18")
	for i, c := range []struct {
		counts []int64
		grants []drive.Grant
		want   [][2]int
	}{
		// Two Needs of 0 are cpus:2,mem:8; three are cpus:3,mem:12 and hold one Need of 1.
		{[]int64{4, 0}, []drive.Grant{one}, [][2]int{{0, 1}}},
		{[]int64{3, 0}, []drive.Grant{one}, nil},
		{[]int64{4, 1}, []drive.Grant{one}, nil},
		{[]int64{7, 1}, []drive.Grant{one}, [][2]int{{0, 1}}},
		{[]int64{4, 0}, nil, nil},
		{[]int64{4, 0}, []drive.Grant{grant(0, false, "cpus:9,mem:18"), two}, nil},
		{[]int64{4, 0}, []drive.Grant{one, grant(0, true, "cpus:2,mem:18")}, nil},
		{[]int64{4, 0}, []drive.Grant{one, grant(0, false, "cpus:2,mem:18"), two}, [][2]int{{0, 1}}},
		{[]int64{4, 0}, []drive.Grant{grant(0, true, "cpus:2,mem:18"), grant(0, true, "cpus:3,mem:1")}, [][2]int{{0, 1}}},
		{[]int64{0, 5}, []drive.Grant{one, two}, [][2]int{{1, 0}}},
		{[]int64{0, 4}, []drive.Grant{one, two}, nil},
		{[]int64{0, 0}, []drive.Grant{one, two}, nil},
		{[]int64{4, 0}, []drive.Grant{one, grant(2, true, "-"), grant(-1, true, "-"), {Frame: 0, Launched: false, Offered: []api.Part{{}}}}, [][2]int{{0, 1}}},
		{[]int64{4, 0}, []drive.Grant{{Frame: 0, Launched: true, Offered: []api.Part{{}}}}, nil},
	} {
		r := result(c.counts...)
		r.Grants = c.grants
		if got := Envy(example(), r); !slices.Equal(got, c.want) {
			t.Error(i, got)
		}
		p := example()
		p.Wants[0].Weight = 2
		if got := Envy(p, r); len(got) > 0 {
			t.Error(i, "other weights", got)
		}
		for n, p := range others() {
			if got := Envy(p, r); len(got) > 0 {
				t.Error(n, got)
			}
		}
	}
}

// P36.4: three Wants, and amounts whose multiples are great
func TestEnvyOrder(t *testing.T) {
	p := drive.Profile{Agents: [][]api.Part{v("cpus:9007199254740.992")}}
	r := drive.Result{}
	for range 3 {
		p.Wants = append(p.Wants, drive.Want{Weight: 5, Need: v("cpus:9007199254740.992")})
		r.Grants = append(r.Grants, drive.Grant{Frame: len(r.Grants), Launched: true, Offered: p.Agents[0]})
	}
	r.Tasks = [][]int64{{4096}, {4096}, {3000}}
	if got := Envy(p, r); !slices.Equal(got, [][2]int{{0, 2}, {1, 2}}) {
		t.Error(got)
	}
	r.Tasks = [][]int64{{4096}, {0}, {3000}}
	if got := Envy(p, r); !slices.Equal(got, [][2]int{{0, 1}, {0, 2}, {2, 1}}) {
		t.Error(got)
	}
	r.Tasks[0][0] = 4097
	if got := Envy(p, r); len(got) > 0 {
		t.Error(got)
	}
}

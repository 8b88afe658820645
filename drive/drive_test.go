package drive

import (
	"math"
	"slices"
	"testing"

	"manciple/api"
	"manciple/samples"
	"manciple/share"
	"manciple/sums"
	"manciple/vec"
)

func v(s string) []api.Part {
	l, ok := vec.Parse(s)
	if !ok {
		panic(s)
	}
	return l
}

// example is that of the chapter.
func example() Profile {
	return Profile{Agents: [][]api.Part{v("cpus:9,mem:18")}, Wants: []Want{{1, v("cpus:1,mem:4")}, {1, v("cpus:3,mem:1")}}}
}

type edit func(p *Profile)

// P35.1
func TestCheck(t *testing.T) {
	full := func(p *Profile) {
		p.Agents = slices.Repeat(p.Agents, 16)
		p.Wants = slices.Repeat(p.Wants[1:], 32)
	}
	for i, change := range []edit{
		func(p *Profile) {},
		full,
		func(p *Profile) { p.Wants[0].Weight = 1000 },
		func(p *Profile) { p.Min = [4]int64{1000, 1000, 0, 0} },
		func(p *Profile) { p.Wants[0].Need = v("gpus:9") },
		func(p *Profile) {
			p.Agents, p.Wants = [][]api.Part{v("cpus:9007199254740"), v("cpus:0.992")}, []Want{{1, v("cpus:9007199254740")}}
		},
	} {
		p := example()
		change(&p)
		if err := Check(p); err != api.OK {
			t.Error(i, err)
		}
	}
	for i, change := range []edit{
		func(p *Profile) { p.Agents = nil },
		func(p *Profile) { p.Agents = slices.Repeat(p.Agents, 17) },
		func(p *Profile) { p.Agents[0] = nil },
		func(p *Profile) { p.Agents[0] = v("cpus:9,mem(1):18") },
		func(p *Profile) { p.Agents[0] = []api.Part{{Amount: -1}} },
		func(p *Profile) { p.Agents = [][]api.Part{v("cpus:9007199254740.992"), v("cpus:0.001")} },
		func(p *Profile) { p.Wants = nil },
		func(p *Profile) { p.Wants = slices.Repeat(p.Wants, 17) },
		func(p *Profile) { p.Wants[1].Weight = 0 },
		func(p *Profile) { p.Wants[1].Weight = 1001 },
		func(p *Profile) { p.Wants[1].Need = nil },
		func(p *Profile) { p.Wants[1].Need = v("cpus(2):1") },
		func(p *Profile) { p.Wants[1].Need = []api.Part{{Kind: 4, Amount: 1}} },
		func(p *Profile) { p.Min[3] = -1 },
		func(p *Profile) { p.Min[3] = api.Top + 1 },
		func(p *Profile) { p.Min[1] = 1001 },
		func(p *Profile) { p.Min[2] = 1 },
		func(p *Profile) { p.Min[2], p.Wants[0].Need = math.MinInt64, v("cpus:0.001") },
		func(p *Profile) { p.Wants[0].Weight, p.Wants[1].Need = 0, v("cpus:0.001") },
	} {
		p := example()
		change(&p)
		if err := Check(p); err != api.ErrArg || Bound(p) != 0 {
			t.Error(i, err, Bound(p))
		}
		for _, f := range []func(Profile, []int) (Result, api.Errno){Run, Settle} {
			if r, err := f(p, []int{0}); err != api.ErrArg || len(r.Grants)+len(r.Tasks)+len(r.Left) > 0 {
				t.Error(i, r, err)
			}
		}
		if len(Finals(p, Result{})) > 0 {
			t.Error(i, "Finals")
		}
	}
}

// P35.1
func TestBound(t *testing.T) {
	p := example()
	if n := Bound(p); n != 4+3+2 {
		t.Error(n)
	}
	p.Agents = append(p.Agents, v("cpus:2,mem:100"))
	if n := Bound(p); n != 4+3+2+0+4 {
		t.Error(n)
	}
	p.Wants[0].Need = v("cpus:0.003")
	if n := Bound(p); n != 3000+3+666+0+4 || Check(p) != api.OK {
		t.Error(n)
	}
	one := Profile{Agents: [][]api.Part{v("cpus:4.095")}, Wants: []Want{{1, v("cpus:0.001")}}}
	if Bound(one) != 4096 || Check(one) != api.OK {
		t.Error(Bound(one), Check(one))
	}
	one.Agents[0] = v("cpus:4.096")
	if r, err := Run(one, nil); Bound(one) != 4097 || Check(one) != api.ErrCap || err != api.ErrCap || len(r.Tasks) > 0 {
		t.Error(Bound(one), Check(one))
	}
	one.Agents[0] = v("cpus:9007199254740.992")
	if Bound(one) != 1<<53 || Check(one) != api.ErrCap {
		t.Error(Bound(one))
	}
	one.Wants = slices.Repeat(one.Wants, 32)
	if Bound(one) != 1<<53 {
		t.Error(Bound(one))
	}
}

func part(num, den, weight int64) share.Share {
	return share.Share{Part: api.Frac{Num: num, Den: den}, Weight: weight}
}

// P35.2: the example, pick by pick
func TestRun(t *testing.T) {
	r, err := Run(example(), []int{0, 5, 0, -1, 0, 0, 0, 1 << 40, 0, 0, 0})
	if err != api.OK {
		t.Fatal(err)
	}
	want := []Grant{
		{0, 0, 0, part(0, 9000, 1), v("cpus:9,mem:18"), true},
		{2, 0, 1, part(0, 9000, 1), v("cpus:8,mem:14"), true},
		{4, 0, 0, part(4000, 18000, 1), v("cpus:5,mem:13"), true},
		{5, 0, 1, part(3000, 9000, 1), v("cpus:4,mem:9"), true},
		{6, 0, 0, part(8000, 18000, 1), v("cpus:1,mem:8"), true},
		{8, 0, 0, part(12000, 18000, 1), v("mem:4"), false},
		{9, 0, 1, part(6000, 9000, 1), v("mem:4"), false},
	}
	if len(r.Grants) != len(want) {
		t.Fatal(r.Grants)
	}
	for i, g := range r.Grants {
		w := want[i]
		if !vec.Same(g.Offered, w.Offered) {
			t.Error(i, g)
		}
		g.Offered, w.Offered = nil, nil
		if g.Pick != w.Pick || g.Agent != w.Agent || g.Frame != w.Frame || g.Before != w.Before || g.Launched != w.Launched {
			t.Error(i, g, w)
		}
	}
	if len(r.Tasks) != 2 || !slices.Equal(r.Tasks[0], []int64{3}) || !slices.Equal(r.Tasks[1], []int64{2}) {
		t.Error(r.Tasks)
	}
	if len(r.Left) != 1 || vec.Text(r.Left[0]) != "mem:4" {
		t.Error(r.Left)
	}
	r, err = Run(example(), nil)
	if err != api.OK || len(r.Grants) != 0 || len(r.Tasks) != 2 || !slices.Equal(r.Tasks[1], []int64{0}) || len(r.Left) != 1 || vec.Text(r.Left[0]) != "cpus:9,mem:18" {
		t.Error(r, err)
	}
}

// P35.2: what is too little for Min is not offered.
func TestMin(t *testing.T) {
	p := example()
	p.Min = [4]int64{1000, 1000}
	r, err := Settle(p, nil)
	if err != api.OK || len(r.Grants) != 5 {
		t.Error(len(r.Grants), err)
	}
}

// P35.3 and P35.4
func TestSettle(t *testing.T) {
	r, err := Settle(example(), []int{7, 0})
	if err != api.OK || !slices.Equal(r.Tasks[0], []int64{3}) || !slices.Equal(r.Tasks[1], []int64{2}) {
		t.Error(r, err)
	}
	var picks []int
	for _, g := range r.Grants {
		picks = append(picks, g.Pick)
	}
	if !slices.Equal(picks, []int{1, 2, 3, 4, 5, 6, 7}) {
		t.Error(picks)
	}
	if l := Finals(example(), r); !slices.Equal(l, []share.Share{part(12000, 18000, 1), part(6000, 9000, 1)}) {
		t.Error(l)
	}
	p := Profile{Agents: [][]api.Part{v("cpus:2"), v("mem:5"), v("cpus:1,mem:1")}, Wants: []Want{{2, v("cpus:1")}, {3, v("mem:1")}}}
	r, err = Settle(p, []int{2})
	if err != api.OK || len(r.Tasks) != 2 || !slices.Equal(r.Tasks[0], []int64{2, 0, 1}) || !slices.Equal(r.Tasks[1], []int64{0, 5, 1}) {
		t.Error(r, err)
	}
	if g := r.Grants[1]; g.Pick != 1 || g.Agent != 0 {
		t.Error(g)
	}
	if l := Finals(p, r); !slices.Equal(l, []share.Share{part(3000, 3000, 2), part(6000, 6000, 3)}) {
		t.Error(l)
	}
}

// profile returns a small valid profile.
func profile(s *samples.Source) Profile {
	small := func(n int) []api.Part {
		var l []api.Part
		for range 1 + s.Below(3) {
			l = append(l, api.Part{Kind: s.Below(3), Amount: int64(1 + s.Below(n))})
		}
		x, _ := vec.Of(l)
		return x
	}
	var p Profile
	for range 1 + s.Below(4) {
		p.Agents = append(p.Agents, small(40))
	}
	for range 1 + s.Below(5) {
		p.Wants = append(p.Wants, Want{int64(1 + s.Below(4)), small(6)})
	}
	return p
}

// P35.3 to P35.5 and M8, on many profiles
func TestMany(t *testing.T) {
	for seed := range samples.Source(300) {
		s := seed
		p := profile(&s)
		var picks []int
		for range s.Below(30) {
			picks = append(picks, s.Below(6)-1)
		}
		r, err := Settle(p, picks)
		if err != api.OK || int64(len(r.Grants)) > Bound(p) {
			t.Fatal(p, err, len(r.Grants), Bound(p))
		}
		finals := Finals(p, r)
		checkLeft(t, p, r)
		for _, g := range r.Grants {
			for i, w := range p.Wants {
				if g.Launched && i != g.Frame && g.Before.Cmp(finals[i]) > 0 && vec.Holds(g.Offered, w.Need) {
					t.Fatal("a framework that has less could have used what was offered", p, g, i)
				}
			}
		}
		run, _ := Run(p, picks)
		if len(run.Grants) > len(r.Grants) {
			t.Fatal("Run", len(run.Grants))
		}
		for i, g := range run.Grants {
			if h := r.Grants[i]; g.Pick != h.Pick || g.Agent != h.Agent || g.Frame != h.Frame || g.Before != h.Before || !vec.Same(g.Offered, h.Offered) {
				t.Fatal("Settle begins as Run", g, h)
			}
		}
	}
}

// checkLeft holds what is left against the tasks.
func checkLeft(t *testing.T, p Profile, r Result) {
	t.Helper()
	for a, total := range p.Agents {
		left := total
		for i, w := range p.Wants {
			for range r.Tasks[i][a] {
				left, _ = vec.Sub(left, w.Need)
			}
		}
		if !vec.Same(left, r.Left[a]) {
			t.Fatal("Left", left, r.Left[a])
		}
		for _, w := range p.Wants {
			if vec.Holds(left, w.Need) {
				t.Fatal("a task could be launched", p, r.Left)
			}
		}
	}
}

// P35.4: shares are those of sums in what all agents have.
func TestFinals(t *testing.T) {
	p := example()
	p.Agents = append(p.Agents, v("gpus:5"))
	r, _ := Settle(p, nil)
	want := share.Of(sums.Sums{3000, 12000}, sums.Sums{9000, 18000, 0, 5000}, 1)
	if l := Finals(p, r); l[0] != want {
		t.Error(l, want)
	}
	Finals(p, Result{Tasks: [][]int64{{math.MaxInt64, math.MaxInt64, 5}}})
}

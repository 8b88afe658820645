package stock

import (
	"slices"
	"testing"

	"manciple/api"
	"manciple/book"
	"manciple/conf"
	"manciple/effect"
	"manciple/pick"
	"manciple/reason"
	"manciple/samples"
	"manciple/share"
	"manciple/vec"
	"manciple/view"
)

func v(s string) []api.Part {
	l, ok := vec.Parse(s)
	if !ok {
		panic(s)
	}
	return l
}

func sameEvent(a, b api.Event) bool {
	return a.Kind == b.Kind && a.Frame == b.Frame && a.ID == b.ID && a.Agent == b.Agent && vec.Same(a.Vec, b.Vec)
}

// shares holds what a stock tells of shares and times against its book.
func shares(t *testing.T, s *Stock, b api.Book) {
	t.Helper()
	for role := range 35 {
		want, is := book.RoleShare(b, role)
		if got, ok := s.Share(role); got != want || ok != is {
			t.Fatal("Share", role, got, ok, want, is)
		}
	}
	for frame := range int64(8) {
		want, is := book.Share(b, frame)
		if got, ok := s.Own(frame); got != want || ok != is {
			t.Fatal("Own", frame, got, ok, want, is)
		}
	}
	want, is := int64(0), false
	if due := effect.Due(b, 1<<62); len(due) > 0 {
		want, is = due[0].Until, true
	}
	if next, ok := s.Next(); next != want || ok != is {
		t.Fatal("Next", next, ok, want, is)
	}
	var agents []int64
	for _, a := range b.Agents {
		agents = append(agents, a.ID)
	}
	if !slices.Equal(s.Agents(), agents) {
		t.Fatal("Agents", s.Agents())
	}
}

// replay returns the book after offers, each of which must go to a candidate.
func replay(t *testing.T, b api.Book, agent int64, events []api.Event) api.Book {
	t.Helper()
	for _, e := range events {
		after, want, ok := pick.Offer(b, e.Frame, agent)
		if !ok || !sameEvent(e, want) {
			t.Fatal("Offer", e, want, ok)
		}
		b = after
	}
	if !view.Quiet(b, agent) && b.Last < b.Config.IDs {
		t.Fatal("somebody is eligible")
	}
	return b
}

// P27.1 to P27.4, on many calls
func TestMany(t *testing.T) {
	for seed := range samples.Source(60) {
		source := seed
		config := source.Config()
		s, err := New(config)
		b, _ := conf.Start(config)
		if err != api.OK {
			t.Fatal(err)
		}
		for range 300 {
			c := source.Call(b)
			if got, want := s.Refused(c), reason.First(b, c); !slices.Equal(got, want) {
				t.Fatal("Refused", c, got, want)
			}
			after, events, done := effect.Do(b, c)
			got, ok := s.Do(c)
			if ok != done || !slices.EqualFunc(got, events, sameEvent) {
				t.Fatal("Do", c, got, ok, events, done)
			}
			if done {
				b = after
			}
			if c.Kind == api.Allocate || c.Kind == api.All {
				b = replay(t, b, c.Agent, s.Offer(c.Agent))
			}
			if got := s.Book(); !book.Same(got, b) {
				t.Fatal("Book", c, "\n", got, "\n", b)
			}
			if rule, ok := book.Right(b); !ok {
				t.Fatal("not valid", rule)
			}
			shares(t, s, b)
		}
	}
}

// P27.1
func TestNew(t *testing.T) {
	s, err := New(conf.Small())
	start, _ := conf.Start(conf.Small())
	if err != api.OK || !book.Same(s.Book(), start) || len(s.Agents()) > 0 {
		t.Error(err)
	}
	if s, err := New(api.Config{}); s != nil || err != api.ErrArg {
		t.Error(s, err)
	}
}

// P27.2: the last time
func TestHorizon(t *testing.T) {
	s, _ := New(conf.Small())
	if _, ok := s.Do(api.Call{Kind: api.Tick, Time: 1000}); !ok || s.Book().Now != 1000 {
		t.Error("up to the horizon")
	}
	if _, ok := s.Do(api.Call{Kind: api.Tick, Time: 1}); ok || s.Book().Now != 1000 {
		t.Error("past the horizon")
	}
}

// P27.3: numbers run out.
func TestNumbersRunOut(t *testing.T) {
	c := conf.Small()
	c.IDs = 1
	s, _ := New(c)
	s.Do(api.Call{Kind: api.Register, Agent: 1, Vec: v("cpus:1,cpus(2):1")})
	s.Do(api.Call{Kind: api.Subscribe, Frame: 1, Role: 2, Weight: 1})
	if l := s.Offer(1); len(l) != 1 || vec.Text(l[0].Vec) != "cpus(2):1" {
		t.Error(l)
	}
	if l := s.Offer(1); len(l) > 0 {
		t.Error(l)
	}
	if l := s.Offer(2); len(l) > 0 {
		t.Error(l)
	}
}

// P27.3 on a larger scale: all goes to somebody.
func TestLarge(t *testing.T) {
	s, _ := New(api.Config{Horizon: 9, Most: api.Top, IDs: api.Top, Cap: 4096})
	for id := int64(1); id <= 500; id++ {
		s.Do(api.Call{Kind: api.Register, Agent: id, Vec: v("cpus:4,mem:7")})
		s.Do(api.Call{Kind: api.Subscribe, Frame: id, Role: int(id%32) + 1, Weight: id%32 + 1})
	}
	frames := map[int64]int{}
	for _, agent := range s.Agents() {
		for _, e := range s.Offer(agent) {
			frames[e.Frame]++
		}
	}
	b := s.Book()
	if len(b.Offers) != 500 || len(frames) < 250 {
		t.Error(len(b.Offers), len(frames))
	}
	shares(t, s, b)
}

// Rule 4: nothing is shared.
func TestNothingIsShared(t *testing.T) {
	s, _ := New(conf.Small())
	total := v("cpus:4")
	l, _ := s.Do(api.Call{Kind: api.Register, Agent: 1, Vec: total})
	total[0].Amount, l[0].Vec[0].Amount = 1, 2
	s.Do(api.Call{Kind: api.Subscribe, Frame: 1, Role: 2, Weight: 1})
	offered := s.Offer(1)
	offered[0].Vec[0].Amount = 3
	b := s.Book()
	b.Agents[0].Total[0].Amount, b.Offers[0].Vec[0].Amount = 4, 5
	launched := v("cpus:4")
	s.Do(api.Call{Kind: api.Accept, Frame: 1, IDs: []int64{1}, Ops: []api.Op{{Kind: api.Launch, ID: 1, Vec: launched}}})
	launched[0].Amount = 6
	b = s.Book()
	if b.Agents[0].Total[0].Amount != 4000 || len(b.Tasks) != 1 || b.Tasks[0].Vec[0].Amount != 4000 {
		t.Error(b)
	}
}

// P27.5
func TestNil(t *testing.T) {
	for _, s := range []*Stock{nil, {}} {
		for kind := range 17 {
			c := api.Call{Kind: kind, Frame: 1, Agent: 1, ID: 1, Role: 1, Weight: 1, IDs: []int64{1}, Vec: v("cpus:1")}
			if l, ok := s.Do(c); ok || len(l) > 0 || len(s.Refused(c)) > 0 {
				t.Error(kind, l)
			}
		}
		role, is := s.Share(1)
		own, has := s.Own(1)
		next, due := s.Next()
		if is || has || due || next != 0 || role != (share.Share{}) || own != (share.Share{}) {
			t.Error("something is there")
		}
		if len(s.Offer(1)) > 0 || len(s.Agents()) > 0 || !book.Same(s.Book(), api.Book{}) {
			t.Error("something is there")
		}
	}
}

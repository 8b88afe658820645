package life

import (
	"slices"
	"testing"

	"manciple/api"
	"manciple/samples"
	"manciple/session"
	"manciple/vec"
)

func v(s string) []api.Part {
	l, ok := vec.Parse(s)
	if !ok {
		panic(s)
	}
	return l
}

func ev(kind int, frame, id, agent int64, s string) api.Event {
	return api.Event{Kind: kind, Frame: frame, ID: id, Agent: agent, Vec: v(s)}
}

func agent(kind int, id int64) api.Event { return ev(kind, 0, 0, id, "-") }

func framework(kind int, id int64) api.Event { return ev(kind, id, 0, 0, "-") }

// base is a history of which all others here are continuations: agents 1 and 2, framework 1 with the open offer 3 and the task 7, framework 2 that is away with the task 7, and framework 3 that is up.
func base() []api.Event {
	return []api.Event{
		agent(api.EvRegistered, 1), framework(api.EvSubscribed, 1), framework(api.EvSubscribed, 2), ev(api.EvOffered, 2, 1, 1, "cpus:4"),
		ev(api.EvAccepted, 2, 1, 1, "cpus:4"), ev(api.EvLaunched, 2, 7, 1, "cpus:2"), framework(api.EvDisconnected, 2), agent(api.EvRegistered, 2),
		ev(api.EvLaunched, 1, 7, 1, "cpus:1"), framework(api.EvSubscribed, 3), ev(api.EvOffered, 1, 3, 1, "cpus:1"),
	}
}

// P30.1
func TestCheck(t *testing.T) {
	if n, ok := Check(nil); n != 0 || !ok {
		t.Error("nothing is a history", n, ok)
	}
	for _, c := range []struct {
		name string
		ok   bool
		then []api.Event
	}{
		{"nothing", true, nil},
		{"no kind", false, []api.Event{{}}},
		{"no kind", false, []api.Event{{Kind: 20, Frame: 1, Agent: 1}}},
		{"no kind", false, []api.Event{{Kind: -1, Frame: 1, Agent: 1}}},
		{"an agent", true, []api.Event{agent(api.EvRegistered, 3)}},
		{"an old agent", false, []api.Event{agent(api.EvRegistered, 1)}},
		{"leaves", true, []api.Event{agent(api.EvLeft, 2)}},
		{"comes back", true, []api.Event{agent(api.EvLeft, 2), agent(api.EvRegistered, 2)}},
		{"leaves twice", false, []api.Event{agent(api.EvLeft, 2), agent(api.EvLeft, 2)}},
		{"leaves with much", false, []api.Event{agent(api.EvLeft, 1)}},
		{"leaves with an offer and a task", false, []api.Event{ev(api.EvTaskLost, 1, 7, 1, "cpus:1"), agent(api.EvLeft, 1)}},
		{"leaves with tasks", false, []api.Event{ev(api.EvLost, 1, 3, 1, "cpus:1"), agent(api.EvLeft, 1)}},
		{"leaves with an offer", false, []api.Event{ev(api.EvTaskLost, 1, 7, 1, "cpus:1"), ev(api.EvTaskLost, 2, 7, 1, "cpus:2"), agent(api.EvLeft, 1)}},
		{"leaves with nothing", true, []api.Event{ev(api.EvLost, 1, 3, 1, "cpus:1"), ev(api.EvTaskLost, 1, 7, 1, "cpus:1"), ev(api.EvTaskLost, 2, 7, 1, "cpus:2"), agent(api.EvLeft, 1)}},
		{"subscribes again", true, []api.Event{framework(api.EvSubscribed, 1), framework(api.EvSubscribed, 2), framework(api.EvSubscribed, -4)}},
		{"disconnects", true, []api.Event{framework(api.EvDisconnected, 3)}},
		{"disconnects twice", false, []api.Event{framework(api.EvDisconnected, 3), framework(api.EvDisconnected, 3)}},
		{"disconnects who is not there", false, []api.Event{framework(api.EvDisconnected, 9)}},
		{"disconnects with an offer", false, []api.Event{framework(api.EvDisconnected, 1)}},
		{"disconnects with a task", true, []api.Event{ev(api.EvRescinded, 1, 3, 1, "cpus:1"), framework(api.EvDisconnected, 1)}},
		{"gone", true, []api.Event{framework(api.EvGone, 3)}},
		{"gone twice", false, []api.Event{framework(api.EvGone, 3), framework(api.EvGone, 3)}},
		{"gone who is away", true, []api.Event{ev(api.EvTaskDropped, 2, 7, 1, "cpus:2"), framework(api.EvGone, 2)}},
		{"gone with a task", false, []api.Event{framework(api.EvGone, 2)}},
		{"gone with an offer", false, []api.Event{ev(api.EvTaskDropped, 1, 7, 1, "cpus:1"), framework(api.EvGone, 1)}},
		{"gone with nothing", true, []api.Event{ev(api.EvDropped, 1, 3, 1, "cpus:1"), ev(api.EvTaskDropped, 1, 7, 1, "cpus:1"), framework(api.EvGone, 1)}},
		{"offered", true, []api.Event{ev(api.EvOffered, 3, 9, 2, "mem:1"), ev(api.EvOffered, 3, 10, 2, "mem:1")}},
		{"offered with an old number", false, []api.Event{ev(api.EvOffered, 3, 3, 2, "mem:1")}},
		{"offered with a number in between", false, []api.Event{ev(api.EvOffered, 3, 2, 2, "mem:1")}},
		{"offered of no agent", false, []api.Event{ev(api.EvOffered, 3, 9, 3, "mem:1")}},
		{"offered to nobody", false, []api.Event{ev(api.EvOffered, 9, 9, 2, "mem:1")}},
		{"offered to who is away", false, []api.Event{ev(api.EvOffered, 2, 9, 2, "mem:1")}},
		{"nothing offered", false, []api.Event{ev(api.EvOffered, 3, 9, 2, "-")}},
		{"offered no vector", false, []api.Event{{Kind: api.EvOffered, Frame: 3, ID: 9, Agent: 2, Vec: []api.Part{{}}}}},
		{"closed twice", false, []api.Event{ev(api.EvDeclined, 1, 3, 1, "cpus:1"), ev(api.EvDeclined, 1, 3, 1, "cpus:1")}},
		{"closed, another number", false, []api.Event{ev(api.EvDeclined, 1, 2, 1, "cpus:1")}},
		{"closed, another frame", false, []api.Event{ev(api.EvDeclined, 3, 3, 1, "cpus:1")}},
		{"closed, another agent", false, []api.Event{ev(api.EvDeclined, 1, 3, 2, "cpus:1")}},
		{"closed, another vector", false, []api.Event{ev(api.EvDeclined, 1, 3, 1, "cpus:2")}},
		{"launched", true, []api.Event{ev(api.EvLaunched, 3, 7, 2, "mem:1"), ev(api.EvLaunched, 1, 8, 2, "mem:1")}},
		{"launched again", false, []api.Event{ev(api.EvLaunched, 1, 7, 2, "mem:1")}},
		{"launched anew", true, []api.Event{ev(api.EvKilled, 1, 7, 1, "cpus:1"), ev(api.EvLaunched, 1, 7, 2, "mem:1")}},
		{"launched by who is away", false, []api.Event{ev(api.EvLaunched, 2, 8, 2, "mem:1")}},
		{"launched nowhere", false, []api.Event{ev(api.EvLaunched, 1, 8, 3, "mem:1")}},
		{"nothing launched", false, []api.Event{ev(api.EvLaunched, 1, 8, 2, "-")}},
		{"finished by who is away", true, []api.Event{ev(api.EvFinished, 2, 7, 1, "cpus:2")}},
		{"ended twice", false, []api.Event{ev(api.EvKilled, 1, 7, 1, "cpus:1"), ev(api.EvFinished, 1, 7, 1, "cpus:1")}},
		{"ended, another number", false, []api.Event{ev(api.EvKilled, 1, 8, 1, "cpus:1")}},
		{"ended, another agent", false, []api.Event{ev(api.EvKilled, 1, 7, 2, "cpus:1")}},
		{"ended, another vector", false, []api.Event{ev(api.EvKilled, 1, 7, 1, "cpus:2")}},
		{"reserved", true, []api.Event{ev(api.EvReserved, 1, 0, 1, "cpus:1"), ev(api.EvUnreserved, 3, 5, 2, "-")}},
		{"reserved by who is away", false, []api.Event{ev(api.EvReserved, 2, 0, 1, "cpus:1")}},
		{"unreserved nowhere", false, []api.Event{ev(api.EvUnreserved, 1, 0, 3, "cpus:1")}},
	} {
		l := append(base(), c.then...)
		want := len(l)
		if !c.ok {
			want--
		}
		if n, ok := Check(l); n != want || ok != c.ok {
			t.Error(c.name, n, ok)
		}
	}
	if n, ok := Check([]api.Event{agent(api.EvRegistered, 1), framework(api.EvSubscribed, 1), ev(api.EvOffered, 1, 0, 1, "cpus:1")}); n != 2 || ok {
		t.Error("the number 0", n, ok)
	}
}

// P30.1: all kinds that end offers and tasks
func TestKinds(t *testing.T) {
	for kind := -1; kind <= 21; kind++ {
		_, closed := Check(append(base(), ev(kind, 1, 3, 1, "cpus:1"), framework(api.EvDisconnected, 1)))
		if closed != (kind >= api.EvAccepted && kind <= api.EvDropped) {
			t.Error("offer", kind, closed)
		}
		_, ended := Check(append(base(), ev(kind, 2, 7, 1, "cpus:2"), framework(api.EvGone, 2)))
		if ended != (kind >= api.EvKilled && kind <= api.EvTaskDropped) {
			t.Error("task", kind, ended)
		}
	}
}

// P30.2 and P30.3
func TestOfOpenRunning(t *testing.T) {
	l := []api.Event{agent(api.EvRegistered, 1), framework(api.EvSubscribed, 1), ev(api.EvOffered, 1, 1, 1, "cpus:1"), ev(api.EvDeclined, 1, 1, 1, "cpus:1")}
	if got := Of(l); !slices.Equal(got, []Life{{1, 1, 1, 2, 3, api.EvDeclined}}) {
		t.Error(got)
	}
	if got := Of(base()); !slices.Equal(got, []Life{{1, 2, 1, 3, 4, api.EvAccepted}, {3, 1, 1, 10, -1, 0}}) {
		t.Error(got)
	}
	if !slices.Equal(Open(base()), []int64{3}) || !slices.Equal(Running(base()), [][2]int64{{2, 7}, {1, 7}}) {
		t.Error(Open(base()), Running(base()))
	}
	// What is not a history: numbers that are offered twice or end twice, with other frameworks.
	l = []api.Event{
		ev(api.EvDropped, 5, 4, 5, "-"), ev(api.EvOffered, 1, 4, 2, "-"), ev(api.EvOffered, 2, 4, 3, "-"), ev(api.EvKilled, 1, 4, 1, "-"),
		ev(api.EvExpired, 9, 4, 9, "-"), ev(api.EvLost, 1, 4, 2, "-"), ev(api.EvOffered, 1, 4, 2, "-"), ev(api.EvOffered, 1, -3, 2, "-"), ev(api.EvLaunched, 1, 4, 2, "-"),
	}
	want := []Life{{4, 1, 2, 1, 4, api.EvExpired}, {4, 2, 3, 2, 4, api.EvExpired}, {4, 1, 2, 6, -1, 0}, {-3, 1, 2, 7, -1, 0}}
	if got := Of(l); !slices.Equal(got, want) {
		t.Error(got)
	}
	if !slices.Equal(Open(l), []int64{4, -3}) {
		t.Error(Open(l))
	}
	l = []api.Event{
		ev(api.EvLaunched, 1, 1, 1, "-"), ev(api.EvLaunched, 1, 2, 1, "-"), ev(api.EvTaskLost, 1, 1, 9, "-"), ev(api.EvLaunched, 1, 1, 3, "-"), ev(api.EvLaunched, 1, 1, 4, "-"),
		ev(api.EvFinished, 2, 1, 1, "-"), ev(api.EvAccepted, 1, 2, 1, "-"), ev(api.EvReserved, 1, 2, 1, "-"),
	}
	if got := Running(l); !slices.Equal(got, [][2]int64{{1, 2}, {1, 1}, {1, 1}}) {
		t.Error(got)
	}
	first := []api.Event{ev(api.EvOffered, 1, 4, 2, "-")}
	if got := Of(first); !slices.Equal(got, []Life{{4, 1, 2, 0, -1, 0}}) || !slices.Equal(Open(first), []int64{4}) {
		t.Error(got)
	}
	if got := Running([]api.Event{ev(api.EvLaunched, 1, 4, 2, "-")}); !slices.Equal(got, [][2]int64{{1, 4}}) {
		t.Error(got)
	}
	if len(Of(nil))+len(Open(nil))+len(Running(nil)) > 0 {
		t.Error("nothing")
	}
}

// P30.4 and M4: the events of a session are a history.
func TestSessions(t *testing.T) {
	for seed := range samples.Source(40) {
		source := seed
		s, _ := session.New(source.Config())
		var l []api.Event
		for range 300 {
			l = append(l, s.Do(source.Call(s.Book())).Events...)
		}
		if n, ok := Check(l); n != len(l) || !ok {
			t.Fatal(n, l[n])
		}
		b := s.Book()
		var open []int64
		var running [][2]int64
		for _, o := range b.Offers {
			open = append(open, o.ID)
		}
		for _, x := range b.Tasks {
			running = append(running, [2]int64{x.Frame, x.ID})
		}
		got := Running(l)
		slices.SortFunc(got, func(a, b [2]int64) int { return slices.Compare(a[:], b[:]) })
		if !slices.Equal(Open(l), open) || !slices.Equal(got, running) {
			t.Fatal(Open(l), open, got, running)
		}
		numbers := map[int64]bool{}
		for _, x := range Of(l) {
			if numbers[x.ID] {
				t.Fatal("a number was offered twice", x)
			}
			numbers[x.ID] = true
		}
	}
}

package tell

import (
	"math"
	"testing"

	"manciple/api"
	"manciple/book"
	"manciple/conf"
	"manciple/samples"
	"manciple/session"
	"manciple/vec"
)

func v(s string) []api.Part {
	l, ok := vec.Parse(s)
	if !ok {
		panic(s)
	}
	return l
}

// P34.1
func TestErr(t *testing.T) {
	want := map[api.Errno]string{
		0: "ok", 1: "form", 2: "twice", 10: "no framework", 11: "no agent", 12: "no offer", 13: "no task",
		20: "totals", 21: "role", 22: "weight", 23: "gone", 24: "owner", 25: "span", 26: "live", 27: "foreign",
		30: "short", 31: "most", 32: "cap", 33: "horizon", 34: "ids", 40: "nil", 41: "argument", 42: "there", 43: "none", 44: "text",
		3: "error 3", 9: "error 9", 14: "error 14", 28: "error 28", 39: "error 39", 45: "error 45", -1: "error -1",
		math.MaxInt: "error 9223372036854775807", math.MinInt: "error -9223372036854775808",
	}
	for e, s := range want {
		if Err(e) != s {
			t.Error(int(e), Err(e))
		}
	}
}

// P34.1
func TestKind(t *testing.T) {
	for kind, s := range []string{"event 0", "registered", "left", "subscribed", "disconnected", "gone", "offered", "accepted", "declined", "rescinded", "expired", "lost", "dropped", "launched", "killed", "finished", "task-lost", "task-dropped", "reserved", "unreserved", "event 20"} {
		if Kind(kind) != s {
			t.Error(kind, Kind(kind))
		}
	}
	if Kind(-1) != "event -1" || Kind(math.MinInt) != "event -9223372036854775808" {
		t.Error(Kind(-1))
	}
}

// P34.2
func TestEvent(t *testing.T) {
	for kind, want := range []string{
		"event 0", "registered agent 3 cpus:1", "left agent 3", "subscribed frame 1", "disconnected frame 1", "gone frame 1", "offered frame 1 id 2 agent 3 cpus:1",
		"accepted frame 1 id 2 agent 3 cpus:1", "declined frame 1 id 2 agent 3 cpus:1", "rescinded frame 1 id 2 agent 3 cpus:1", "expired frame 1 id 2 agent 3 cpus:1",
		"lost frame 1 id 2 agent 3 cpus:1", "dropped frame 1 id 2 agent 3 cpus:1", "launched frame 1 id 2 agent 3 cpus:1", "killed frame 1 id 2 agent 3 cpus:1",
		"finished frame 1 id 2 agent 3 cpus:1", "task-lost frame 1 id 2 agent 3 cpus:1", "task-dropped frame 1 id 2 agent 3 cpus:1", "reserved frame 1 agent 3 cpus:1", "unreserved frame 1 agent 3 cpus:1", "event 20",
	} {
		if got := Event(api.Event{Kind: kind, Frame: 1, ID: 2, Agent: 3, Vec: v("cpus:1")}); got != want {
			t.Error(kind, got)
		}
	}
	for want, e := range map[string]api.Event{
		"offered frame -1 id 0 agent -9223372036854775808 ?": {Kind: api.EvOffered, Frame: -1, Agent: math.MinInt64, Vec: []api.Part{{}}},
		"registered agent 0 -":                               {Kind: api.EvRegistered},
		"subscribed frame 0":                                 {Kind: api.EvSubscribed, Vec: []api.Part{{}}},
		"event -3":                                           {Kind: -3, Frame: 1},
	} {
		if got := Event(e); got != want {
			t.Error(got, want)
		}
	}
}

// P34.3
func TestReply(t *testing.T) {
	for want, r := range map[string]api.Reply{
		"ok":           {},
		"no framework": {Code: api.ErrFrame},
		"error 7; left agent 3; offered frame 1 id 2 agent 3 cpus:1": {Code: 7, Events: []api.Event{{Kind: api.EvLeft, Agent: 3}, {Kind: api.EvOffered, Frame: 1, ID: 2, Agent: 3, Vec: v("cpus:1")}}},
	} {
		if got := Reply(r); got != want {
			t.Error(got, want)
		}
	}
}

// P34.4
func TestBook(t *testing.T) {
	b := api.Book{
		Now: 5, Last: 9,
		Frames:  []api.Frame{{ID: 1, Role: 2, Weight: 3, Up: true, Time: 4}, {ID: 3, Role: 2, Weight: 3, Time: 4, Until: 9}, {ID: 7, Role: 5, Weight: 1, Up: true, Quiet: true}, {ID: 8, Role: 5, Weight: 1, Quiet: true}},
		Agents:  []api.Agent{{ID: 2, Total: v("cpus:9,cpus(2):4"), Free: v("cpus:2")}, {ID: 4, Total: v("cpus:10"), Free: nil}, {ID: -4, Total: []api.Part{{}}, Free: []api.Part{{}}}},
		Offers:  []api.Offer{{ID: 6, Frame: 1, Agent: 2, Vec: v("cpus:3,cpus(2):1"), Until: 6}, {ID: 9, Frame: 7, Agent: 4, Vec: v("cpus:2")}},
		Tasks:   []api.Task{{Frame: 1, ID: 8, Agent: 2, Vec: v("cpus:4")}},
		Filters: []api.Filter{{Frame: 1, Agent: 2, Until: 6, Vec: v("cpus:1")}, {Frame: 1, Agent: 2, Vec: []api.Part{{Amount: -1}}}},
	}
	want := `now 5 last 9
frame 1 role 2 weight 3 up
frame 3 role 2 weight 3 away 9
frame 7 role 5 weight 1 up quiet
frame 8 role 5 weight 1 away 0 quiet
agent 2 total cpus:9,cpus(2):4 free cpus:2
agent 4 total cpus:10 free -
agent -4 total ? free ?
offer 6 frame 1 agent 2 cpus:3,cpus(2):1 until 6
offer 9 frame 7 agent 4 cpus:2
task 1 8 agent 2 cpus:4
filter 1 agent 2 until 6 cpus:1
filter 1 agent 2 until 0 ?
`
	if got := Book(b); got != want {
		t.Error(got)
	}
	if got := Book(api.Book{}); got != "now 0 last 0\n" {
		t.Error(got)
	}
}

// P34.5: books of sessions with the same text differ at most in Times.
func TestDifferentBooks(t *testing.T) {
	seen := map[string]api.Book{}
	for seed := range samples.Source(20) {
		source := seed
		s, _ := session.New(conf.Small())
		for range 100 {
			s.Do(source.Call(s.Book()))
			b := s.Book()
			for i := range b.Frames {
				b.Frames[i].Time = 0
			}
			if other, ok := seen[Book(b)]; ok && !book.Same(b, other) {
				t.Fatal(Book(b), other)
			}
			seen[Book(b)] = b
		}
	}
}

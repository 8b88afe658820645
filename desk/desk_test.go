package desk

import (
	"strings"
	"testing"

	"manciple/api"
	"manciple/book"
	"manciple/conf"
	"manciple/line"
	"manciple/samples"
	"manciple/session"
	"manciple/tell"
)

const small = "session 1000 1000000 1000 0 64 0 0 0 0"

// say holds answers against what is wanted; "!" stands for an invalid line.
func say(t *testing.T, d *Desk, lines ...[2]string) {
	t.Helper()
	for _, l := range lines {
		answer, ok := d.Say(l[0])
		if !ok {
			answer += "!"
		}
		if answer != l[1] {
			t.Errorf("%q: %q, not %q", l[0], answer, l[1])
		}
	}
}

// P38.1: the example, and all queries
func TestSay(t *testing.T) {
	d := New()
	say(t, d,
		[2]string{"", ""}, [2]string{"# tick", ""}, [2]string{"book", "!"}, [2]string{"tick 1", "!"}, [2]string{"count", "!"}, [2]string{"shares", "!"}, [2]string{"why tick 1", "!"}, [2]string{"take 1 1", "!"},
		[2]string{"session", "!"}, [2]string{"session 1", "!"}, [2]string{small + " 0", "!"}, [2]string{" " + small, "!"})
	if !book.Same(d.Book(), api.Book{}) {
		t.Error("there is no session")
	}
	say(t, d,
		[2]string{small, "ok"},
		[2]string{"book", "now 0 last 0"},
		[2]string{"shares", "nobody"},
		[2]string{"count", "0 0"},
		[2]string{"register 1 cpus:4", "ok; registered agent 1 cpus:4"},
		[2]string{"subscribe 1 2 3 0", "ok; subscribed frame 1"},
		[2]string{"", ""}, [2]string{"#", ""},
		[2]string{"why allocate 1", "fine"},
		[2]string{"allocate 1", "ok; offered frame 1 id 1 agent 1 cpus:4"},
		[2]string{"why accept 9 0 7,8 -", "no framework, no offer"},
		[2]string{"why decline 1 0 1,1", "twice"},
		[2]string{"decline 1 0 1,1", "twice"},
		[2]string{"accept 9 0 7,8 -", "no framework"},
		[2]string{"shares", "role 2 4000/4000:3"},
		[2]string{"accept 1 0 1 launch:7:cpus:1", "ok; accepted frame 1 id 1 agent 1 cpus:4; launched frame 1 id 7 agent 1 cpus:1"},
		[2]string{"subscribe 5 1 1 9", "ok; subscribed frame 5"},
		[2]string{"shares", "role 1 0/4000:1; role 2 1000/4000:3"},
		[2]string{"take 1 2", "subscribed frame 1; offered frame 1 id 1 agent 1 cpus:4"},
		[2]string{"take 1 1", "accepted frame 1 id 1 agent 1 cpus:4"},
		[2]string{"take 1 1000", "launched frame 1 id 7 agent 1 cpus:1"},
		[2]string{"take 1 1000", "nothing"},
		[2]string{"take 9007199254740992 1", "nothing"},
		[2]string{"count", "5 2"},
		[2]string{"book", "now 0 last 1\nframe 1 role 2 weight 3 up\nframe 5 role 1 weight 1 up\nagent 1 total cpus:4 free cpus:3\ntask 1 7 agent 1 cpus:1"})
	if b := d.Book(); len(b.Tasks) != 1 || b.Last != 1 {
		t.Error(b)
	}
	say(t, d, [2]string{small, "ok"}, [2]string{"book", "now 0 last 0"}, [2]string{"count", "0 0"})
}

// P38.1: invalid lines
func TestInvalid(t *testing.T) {
	d := New()
	say(t, d, [2]string{small, "ok"}, [2]string{"register 1 cpus:4", "ok; registered agent 1 cpus:4"})
	for _, s := range []string{
		" ", " #", "book ", "book 1", " book", "Book", "shares ", "shares 1", "count ", "count 1", "why", "why ", "why tick 05", "why  tick 5", "why book", "why why tick 1", "tick 05", "tick", "nonsense", "nobody",
		"take", "take ", "take 1", "take 1 ", "take 0 1", "take 1 0", "take 1 1001", "take 9007199254740993 1", "take 1 1 1", "take  1 1", "take 1  1", "take 01 1", "take 1 +1", "take -1 1", "take x 1", "take 1 1 ",
		"session", "session ", "session 1 2 3", "session  1000 1000000 1000 0 64 0 0 0 0", "session 1000 1000000 1000 0 0 0 0 0 0", small + " ", "tick 1\ntick 1", "tick 1\r",
	} {
		say(t, d, [2]string{s, "!"})
	}
	say(t, d, [2]string{"count", "1 0"}, [2]string{"book", "now 0 last 0\nagent 1 total cpus:4 free cpus:4"})
}

// P38.2
func TestRun(t *testing.T) {
	for _, c := range []struct {
		text, answers string
		at            int
	}{
		{"", "", 0}, {"\n\n# x\n", "", 0}, {"tick 1", "", 1}, {"\n#\ntick 1\n", "", 3},
		{small + "\nregister 1 cpus:4\nsubscribe 1 2 3 0\nallocate 1", "ok\nok; registered agent 1 cpus:4\nok; subscribed frame 1\nok; offered frame 1 id 1 agent 1 cpus:4\n", 0},
		{"# begin\n" + small + "\n\ntick 1\n", "ok\nok\n", 0},
		{small + "\n\ntick 1\n \ntick 1\n", "ok\nok\n", 4},
		{small + "\nbook\ntick 1\nbook", "ok\nnow 0 last 0\nok\nnow 1 last 0\n", 0},
		{small + "\ntick 9999\ntake 1 1\n", "ok\nhorizon\nnothing\n", 0},
		{small + "\r\n", "", 1},
	} {
		if answers, at := Run(c.text); answers != c.answers || at != c.at {
			t.Errorf("%q: %q %d", c.text, answers, at)
		}
	}
}

// M6: calls as lines have the same replies as calls that are passed directly.
func TestReplies(t *testing.T) {
	source := samples.Source(4)
	d := New()
	d.Say(small)
	s, _ := session.New(conf.Small())
	for range 500 {
		c := source.Call(s.Book())
		text, ok := line.Text(c)
		if !ok {
			continue
		}
		say(t, d, [2]string{text, tell.Reply(s.Do(c))})
	}
	if !book.Same(d.Book(), s.Book()) {
		t.Error("other books")
	}
	if answer, ok := d.Say("book"); !ok || answer+"\n" != tell.Book(s.Book()) || strings.HasSuffix(answer, "\n") {
		t.Error(answer)
	}
}

// P38.3
func TestNil(t *testing.T) {
	for _, d := range []*Desk{nil, {}} {
		say(t, d, [2]string{"", "!"}, [2]string{"#", "!"}, [2]string{small, "!"}, [2]string{"tick 1", "!"}, [2]string{"book", "!"}, [2]string{"count", "!"})
		if !book.Same(d.Book(), api.Book{}) {
			t.Error("the book")
		}
	}
}

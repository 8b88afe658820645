package report

import (
	"slices"
	"testing"

	"manciple/api"
	"manciple/book"
	"manciple/conf"
	"manciple/samples"
	"manciple/session"
	"manciple/share"
	"manciple/vec"
)

func v(s string) []api.Part {
	l, ok := vec.Parse(s)
	if !ok {
		panic(s)
	}
	return l
}

func part(num, den, weight int64) share.Share {
	return share.Share{Part: api.Frac{Num: num, Den: den}, Weight: weight}
}

// sample has the roles 2 and 9 with equal shares, 5 with more, and 7 with nothing.
func sample(t *testing.T) api.Book {
	t.Helper()
	b := api.Book{
		Config: conf.Small(), Last: 9,
		Frames: []api.Frame{
			{ID: 1, Role: 9, Weight: 2, Up: true}, {ID: 2, Role: 2, Weight: 1}, {ID: 3, Role: 9, Weight: 2, Up: true}, {ID: 4, Role: 5, Weight: 1, Up: true}, {ID: 5, Role: 7, Weight: 9},
		},
		Agents: []api.Agent{{ID: 1, Total: v("cpus:9,cpus(5):3,mem:6"), Free: v("cpus:2,cpus(5):0.5,mem:6")}, {ID: 2, Total: v("disk:0.5"), Free: nil}},
		Offers: []api.Offer{{ID: 1, Frame: 1, Agent: 1, Vec: v("cpus:1")}, {ID: 3, Frame: 4, Agent: 1, Vec: v("cpus(5):2.5")}, {ID: 4, Frame: 3, Agent: 1, Vec: v("cpus:1")}},
		Tasks:  []api.Task{{Frame: 1, ID: 1, Agent: 1, Vec: v("cpus:2")}, {Frame: 2, ID: 1, Agent: 1, Vec: v("cpus:2")}, {Frame: 4, ID: 1, Agent: 1, Vec: v("cpus:1")}, {Frame: 4, ID: 2, Agent: 2, Vec: v("disk:0.5")}},
	}
	if rule, ok := book.Right(b); !ok {
		t.Fatal("not valid", rule)
	}
	return b
}

// P39.1
func TestRowsUses(t *testing.T) {
	want := []Row{
		{7, 1, 0, 0, part(0, 12000, 9), 0}, {2, 1, 0, 1, part(2000, 12000, 1), 166}, {9, 2, 2, 1, part(4000, 12000, 2), 333}, {5, 1, 1, 2, part(500, 500, 1), 1000},
	}
	if got := Rows(sample(t)); !slices.Equal(got, want) {
		t.Error(got)
	}
	uses := [4]Use{{12000, 2500, 4500, 5000}, {6000, 6000, 0, 0}, {500, 0, 0, 500}, {}}
	if got := Uses(sample(t)); got != uses {
		t.Error(got)
	}
	empty, _ := conf.Start(conf.Small())
	if len(Rows(empty)) > 0 || Uses(empty) != [4]Use{} {
		t.Error("nothing")
	}
}

// P39.2
func TestGap(t *testing.T) {
	b := sample(t)
	if first, last, ok := Gap(b); first != 7 || last != 5 || !ok {
		t.Error(first, last, ok)
	}
	b.Frames, b.Offers, b.Tasks = b.Frames[:3], b.Offers[:1], nil
	if first, last, ok := Gap(b); first != 2 || last != 9 || !ok {
		t.Error("two rows", first, last, ok)
	}
	b.Offers = nil
	if first, last, ok := Gap(b); first != 0 || last != 0 || ok {
		t.Error("equal shares", first, last, ok)
	}
	b.Frames = b.Frames[:1]
	if first, last, ok := Gap(b); first != 0 || last != 0 || ok {
		t.Error("one row", first, last, ok)
	}
	b.Frames = nil
	if _, _, ok := Gap(b); ok {
		t.Error("no row")
	}
}

// P39.2: shares of equal value in different terms do not differ.
func TestEqualShares(t *testing.T) {
	b := sample(t)
	b.Frames = b.Frames[:3]
	b.Offers = []api.Offer{b.Offers[0], b.Offers[2]}
	b.Tasks = b.Tasks[:2]
	rows := Rows(b)
	if _, _, ok := Gap(b); ok || len(rows) != 2 || rows[0].Role != 2 || rows[0].Share == rows[1].Share {
		t.Error(rows)
	}
}

// P39.3
func TestText(t *testing.T) {
	want := `role 7 frames 1 offers 0 tasks 0 0
role 2 frames 1 offers 0 tasks 1 166
role 9 frames 2 offers 2 tasks 1 333
role 5 frames 1 offers 1 tasks 2 1000
cpus 12 2.5 4.5 5
mem 6 6 0 0
disk 0.5 0 0 0.5
`
	if got := Text(sample(t)); got != want {
		t.Error(got)
	}
	empty, _ := conf.Start(conf.Small())
	if got := Text(empty); got != "" {
		t.Error(got)
	}
	great := api.Book{Agents: []api.Agent{{ID: 1, Total: v("gpus:9007199254740.992")}, {ID: 2, Total: v("gpus:0.001")}}}
	if got := Text(great); got != "gpus ? 0 0 0\n" {
		t.Error(got)
	}
}

// P39.4
func TestSessions(t *testing.T) {
	for seed := range samples.Source(20) {
		source := seed
		s, _ := session.New(source.Config())
		for range 150 {
			s.Do(source.Call(s.Book()))
			b := s.Book()
			for kind, u := range Uses(b) {
				if u.Free+u.Offered+u.Running != u.Total {
					t.Fatal(kind, u)
				}
			}
			rows := Rows(b)
			seen := map[int]bool{}
			frames, offers, tasks := 0, 0, 0
			for i, r := range rows {
				if seen[r.Role] || i > 0 && rows[i-1].Share.Cmp(r.Share) > 0 {
					t.Fatal(rows)
				}
				seen[r.Role] = true
				frames, offers, tasks = frames+r.Frames, offers+r.Offers, tasks+r.Tasks
			}
			if frames != len(b.Frames) || offers != len(b.Offers) || tasks != len(b.Tasks) {
				t.Fatal(rows)
			}
		}
	}
}

// Rule 1: books that are not valid do not cause a panic.
func TestNotValid(t *testing.T) {
	Text(api.Book{Offers: []api.Offer{{Frame: 9, Vec: []api.Part{{Kind: -5}}}}, Tasks: []api.Task{{}}, Frames: []api.Frame{{}, {}}, Agents: []api.Agent{{Total: []api.Part{{Kind: 77}}}}})
}

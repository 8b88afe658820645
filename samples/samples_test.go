package samples

import (
	"testing"

	"manciple/api"
	"manciple/conf"
	"manciple/machine"
	"manciple/vec"
)

// The samples are worth something only if all kinds of calls, errors and events occur among them.
func TestAllOccurs(t *testing.T) {
	done, codes, events := map[int]int{}, map[api.Errno]int{}, map[int]int{}
	for seed := range Source(60) {
		s := seed
		b, err := conf.Start(s.Config())
		if err != api.OK {
			t.Fatal(err)
		}
		for range 300 {
			c := s.Call(b)
			after, r := machine.Reply(b, c)
			codes[r.Code]++
			if r.Code == api.OK {
				done[c.Kind]++
			}
			for _, e := range r.Events {
				events[e.Kind]++
			}
			b = after
		}
	}
	for kind := api.Register; kind <= api.All; kind++ {
		if done[kind] < 10 {
			t.Error("calls of the kind", kind, done[kind])
		}
	}
	for kind := api.EvRegistered; kind <= api.EvUnreserved; kind++ {
		if events[kind] < 10 {
			t.Error("events of the kind", kind, events[kind])
		}
	}
	for _, e := range []api.Errno{1, 2, 10, 11, 12, 13, 20, 22, 23, 24, 25, 26, 27, 30, 31, 32, 33, 34} {
		if codes[e] == 0 {
			t.Error("no", e)
		}
	}
	t.Log(done, codes, events)
}

func TestVec(t *testing.T) {
	s := Source(1)
	for range 1000 {
		if v := s.Vec(); len(v) == 0 || !vec.Right(v) {
			t.Fatal(v)
		}
	}
}

package conf

import (
	"math"
	"testing"

	"manciple/api"
)

var valid = []api.Config{
	Small(),
	{Most: 1, Cap: 1},
	{Horizon: api.Top, Most: api.Top, IDs: api.Top, Life: api.Top, Cap: 4096, Min: [4]int64{api.Top, api.Top, api.Top, api.Top}},
	{Horizon: 1, Most: 2, IDs: 3, Life: 4, Cap: 5, Min: [4]int64{6, 7, 8, 9}},
	{Horizon: 2, Most: 1, IDs: 3, Life: 4, Cap: 5, Min: [4]int64{6, 7, 8, 9}},
	{Horizon: 1, Most: 2, IDs: 4, Life: 3, Cap: 5, Min: [4]int64{6, 7, 8, 9}},
	{Horizon: 1, Most: 2, IDs: 3, Life: 4, Cap: 5, Min: [4]int64{6, 7, 9, 8}},
	{Horizon: 1, Most: 2, IDs: 3, Life: 4, Cap: 5, Min: [4]int64{7, 6, 8, 9}},
}

func wrong() []api.Config {
	var l []api.Config
	with := func(change func(c *api.Config)) {
		c := Small()
		change(&c)
		l = append(l, c)
	}
	for _, n := range []int64{-1, api.Top + 1, math.MinInt64, math.MaxInt64} {
		with(func(c *api.Config) { c.Horizon = n })
		with(func(c *api.Config) { c.Most = n })
		with(func(c *api.Config) { c.IDs = n })
		with(func(c *api.Config) { c.Life = n })
		for kind := range 4 {
			with(func(c *api.Config) { c.Min[kind] = n })
		}
	}
	for _, n := range []int{0, -1, 4097, math.MinInt, math.MaxInt} {
		with(func(c *api.Config) { c.Cap = n })
	}
	with(func(c *api.Config) { c.Most = 0 })
	return append(l, api.Config{})
}

// P13.1
func TestCheckSmall(t *testing.T) {
	for _, c := range valid {
		if Check(c) != api.OK {
			t.Error(c)
		}
	}
	for _, c := range wrong() {
		if Check(c) != api.ErrArg {
			t.Error(c)
		}
	}
	if Small() != (api.Config{Horizon: 1000, Most: 1000000, IDs: 1000, Life: 0, Cap: 64}) {
		t.Error(Small())
	}
}

// P13.2
func TestStart(t *testing.T) {
	for _, c := range valid {
		b, err := Start(c)
		if err != api.OK || b.Config != c || b.Now != 0 || b.Last != 0 || len(b.Frames)+len(b.Agents)+len(b.Offers)+len(b.Tasks)+len(b.Filters) > 0 {
			t.Error(b, err)
		}
	}
	for _, c := range wrong() {
		if b, err := Start(c); err != api.ErrArg || b.Config != (api.Config{}) {
			t.Error(b, err)
		}
	}
}

// P13.3 and P13.4
func TestTextParse(t *testing.T) {
	if s := Text(Small()); s != "1000 1000000 1000 0 64 0 0 0 0" {
		t.Error(s)
	}
	if s := Text(valid[3]); s != "1 2 3 4 5 6 7 8 9" {
		t.Error(s)
	}
	texts := map[string]bool{}
	for _, c := range valid {
		s := Text(c)
		if texts[s] {
			t.Error("two of the text", s)
		}
		texts[s] = true
		if got, ok := Parse(s); got != c || !ok {
			t.Error("Parse", s, got, ok)
		}
	}
	for _, c := range wrong() {
		if Text(c) != "" {
			t.Error("Text", c)
		}
	}
	for _, s := range []string{"", " ", "1 2 3 4 5 6 7 8", "1 2 3 4 5 6 7 8 9 10", " 1 2 3 4 5 6 7 8 9", "1 2 3 4 5 6 7 8 9 ", "1 2  3 4 5 6 7 8 9", "01 2 3 4 5 6 7 8 9", "1 2 3 4 5 6 7 8 +9", "-1 2 3 4 5 6 7 8 9", "1 0 3 4 5 6 7 8 9", "1 2 3 4 0 6 7 8 9", "1 2 3 4 4097 6 7 8 9", "1 2 3 4 5 6 7 8 x", "1\t2 3 4 5 6 7 8 9", "1 2 3 4 5 6 7 8 9007199254740993", "1 2 3 4 18446744073709551621 6 7 8 9", "0 0 0 0 0 0 0 0 0"} {
		if c, ok := Parse(s); ok || c != (api.Config{}) {
			t.Error("Parse", s, c, ok)
		}
	}
}

package line

import (
	"strconv"
	"strings"

	"manciple/api"
	"manciple/shape"
	"manciple/vec"
)

// Parse returns the call whose line is s, and true; the zero value and false if there is none.
func Parse(s string) (api.Call, bool) {
	next := words(s)
	kind, ok := shape.Kind(next())
	c := api.Call{Kind: kind}
	for f := shape.Frame; f <= shape.Ops; f++ {
		if ok && shape.Has(kind, f) {
			ok = setField(&c, f, next())
		}
	}
	// Of all ways to write a call, only its line is left.
	if text, is := Text(c); !ok || !is || text != s {
		return api.Call{}, false
	}
	return c, true
}

// words returns a function that returns the words of s one by one, and the empty string after the last one.
func words(s string) func() string {
	return func() string {
		word, rest, _ := strings.Cut(s, " ")
		s = rest
		return word
	}
}

// number returns the number that a word is; -1, which no field may be, if it is none.
func number(word string) int64 {
	n, err := strconv.ParseInt(word, 10, 64)
	if err != nil || digits(n) != word {
		return -1
	}
	return n
}

// setField sets a field of a call to what a word says; false if it says nothing.
func setField(c *api.Call, f shape.Field, word string) bool {
	ok := true
	switch f {
	case shape.Frame:
		c.Frame = number(word)
	case shape.Agent:
		c.Agent = number(word)
	case shape.ID:
		c.ID = number(word)
	case shape.Role:
		c.Role = int(number(word))
	case shape.Weight:
		c.Weight = number(word)
	case shape.Time:
		c.Time = number(word)
	case shape.IDs:
		c.IDs = parseIDs(word)
	case shape.Vec:
		c.Vec, ok = vec.Parse(word)
	case shape.Ops:
		c.Ops, ok = parseOps(word)
	}
	return ok
}

func parseIDs(word string) []int64 {
	var ids []int64
	for s := range strings.SplitSeq(word, ",") {
		ids = append(ids, number(s))
	}
	return ids
}

func parseOps(word string) ([]api.Op, bool) {
	if word == none {
		return nil, true
	}
	var ops []api.Op
	for s := range strings.SplitSeq(word, ";") {
		o, ok := OfOp(s)
		if !ok {
			return nil, false
		}
		ops = append(ops, o)
	}
	return ops, true
}

// OfOp returns the valid operation whose text is s, and true; the zero value and false if there is none.
func OfOp(s string) (api.Op, bool) {
	name, rest, _ := strings.Cut(s, ":")
	o := api.Op{Kind: opKind(name)}
	if o.Kind == api.Launch {
		id, v, _ := strings.Cut(rest, ":")
		o.ID, rest = number(id), v
	}
	v, ok := vec.Parse(rest)
	o.Vec = v
	if !ok || Op(o) != s || s == "" {
		return api.Op{}, false
	}
	return o, true
}

// opKind returns the kind of operations with that name; 0 if there is none.
func opKind(name string) int {
	for kind := api.Launch; kind <= api.Unreserve; kind++ {
		if shape.OpName(kind) == name {
			return kind
		}
	}
	return 0
}

// Read returns the calls of the lines of s, 0, and true; otherwise the calls before the first line that is not the line of a call, the number of that line (from 1), and false.
func Read(s string) ([]api.Call, int, bool) {
	var l []api.Call
	at := 0
	for text := range strings.SplitSeq(s, "\n") {
		at++
		if text == "" || strings.HasPrefix(text, "#") {
			continue
		}
		c, ok := Parse(text)
		if !ok {
			return l, at, false
		}
		l = append(l, c)
	}
	return l, 0, true
}

package judge_test

import (
	"slices"
	"strconv"
	"strings"
	"testing"

	"flagon/api"
	"flagon/control"
	"flagon/ops"
)

// What the document's judgement says, as a list of all that does not hold: each thing by its pc and its name.

// said is a function, and what somebody says of its shapes.
type said struct {
	m                   api.Module
	f                   api.Function
	own                 api.Sig
	ends, elses, owners []int
	shapes              []string
	faults              []string
}

// broken is what does not hold of a module that may be written.
func broken(m api.Module, function int, shapes []string) []string {
	s := said{m: m, f: m.Functions[function], shapes: shapes}
	s.own = m.Types[s.f.Type]
	var e api.Errno
	if s.ends, s.elses, s.owners, e, _ = control.Map(s.f.Code); e != api.OK {
		return []string{"code"}
	}
	if len(shapes) != len(s.f.Code) {
		return []string{"count"}
	}
	for pc, text := range shapes {
		s.need(len(text) <= 256 && strings.Trim(text, "wl") == "", pc, "shape")
	}
	s.need(shapes[0] == "", 0, "first")
	for pc := range shapes {
		s.row(pc, wordOf(s.f.Code[pc]))
	}
	return s.faults
}

func (s *said) need(holds bool, pc int, name string) bool {
	if !holds {
		s.faults = append(s.faults, strconv.Itoa(pc)+" "+name)
	}
	return holds
}

// equals: the shape at that pc is that one; told as a fault of the instruction at another pc.
func (s *said) equals(by, pc int, shape, name string) {
	s.need(s.shapes[pc] == shape, by, name)
}

// takes is what an opener has on top of its base; not, if its type is none.
func (s *said) takes(opener int) (string, bool) {
	x, found := s.sig(opener)
	if wordOf(s.f.Code[opener]) == "if" {
		return x.Params + "w", found
	}
	return x.Params, found
}

func (s *said) sig(opener int) (api.Sig, bool) {
	if opener == -1 {
		return api.Sig{Results: s.own.Results}, true
	}
	number := s.f.Code[opener].A
	if number >= int64(len(s.m.Types)) {
		return api.Sig{}, false
	}
	return s.m.Types[number], true
}

// base is B(o); not, if there is none.
func (s *said) base(opener int) (string, bool) {
	if opener == -1 {
		return "", true
	}
	top, found := s.takes(opener)
	if !found || !strings.HasSuffix(s.shapes[opener], top) {
		return "", false
	}
	return s.shapes[opener][:len(s.shapes[opener])-len(top)], true
}

// splits: "S(p) is X y"; it answers B(o) X. X is looked for letter by letter.
func (s *said) splits(pc int, y string) (string, bool) {
	base, found := s.base(s.owners[pc])
	shape := s.shapes[pc]
	if !s.need(found, pc, "base") {
		return "", false
	}
	for end := len(base); end <= len(shape); end++ {
		if shape == base+shape[len(base):end]+y {
			return base + shape[len(base):end], true
		}
	}
	s.need(false, pc, "top")
	return "", false
}

// turns: S(p) is X pops, S(p+1) = B(o) X pushes.
func (s *said) turns(pc int, pops, pushes string) {
	if rest, found := s.splits(pc, pops); found {
		s.equals(pc, pc+1, rest+pushes, "next")
	}
}

// row notes what does not hold at pc.
func (s *said) row(pc int, word string) {
	x := s.f.Code[pc]
	switch word {
	case "block", "loop", "if":
		s.opens(pc, word)
	case "else", "end":
		s.closes(pc, word)
	case "trap", "br", "brtable", "return":
		behind := wordOf(s.f.Code[pc+1])
		s.need(behind == "else" || behind == "end", pc, "behind")
		s.leaves(pc, word)
	case "brif":
		if letters, found := s.label(pc, x.A); s.need(found, pc, "label") {
			s.turns(pc, letters+"w", letters)
		}
	case "drop":
		shape := s.shapes[pc]
		s.turns(pc, lastOf(shape), "")
	case "select":
		y := lastOf(strings.TrimSuffix(s.shapes[pc], "w"))
		s.turns(pc, y+y+"w", y)
	default:
		s.single(pc, word, x.A)
	}
}

// lastOf is the last letter; where there is none a text that no shape ends with.
func lastOf(shape string) string {
	if shape == "" {
		return "?"
	}
	return shape[len(shape)-1:]
}

func (s *said) opens(pc int, word string) {
	x, found := s.sig(pc)
	if !s.need(found, pc, "index") {
		return
	}
	if word != "if" {
		if _, found := s.splits(pc, x.Params); found {
			s.equals(pc, pc+1, s.shapes[pc], "next")
		}
		return
	}
	rest, found := s.splits(pc, x.Params+"w")
	if !found {
		return
	}
	s.equals(pc, pc+1, rest+x.Params, "next")
	if other := s.elses[pc]; other >= 0 {
		s.equals(pc, other+1, rest+x.Params, "else")
		return
	}
	s.need(x.Params == x.Results, pc, "same")
	s.equals(pc, s.ends[pc], rest+x.Results, "end")
}

func (s *said) closes(pc int, word string) {
	opener := s.owners[pc]
	x, _ := s.sig(opener)
	base, found := s.base(opener)
	if !s.need(found, pc, "base") {
		return
	}
	s.equals(pc, pc, base+x.Results, "left")
	switch {
	case word == "else":
		s.equals(pc, s.ends[opener], base+x.Results, "end")
	case opener >= 0:
		s.equals(pc, pc+1, base+x.Results, "next")
	}
}

// label is what the label of that number brings, if there is one.
func (s *said) label(pc int, number int64) (string, bool) {
	labels := control.Labels(s.f.Code, pc)
	if number >= int64(len(labels)) {
		return "", false
	}
	opener := labels[number]
	x, _ := s.sig(opener)
	if opener >= 0 && wordOf(s.f.Code[opener]) == "loop" {
		return x.Params, true
	}
	return x.Results, true
}

func (s *said) leaves(pc int, word string) {
	switch x := s.f.Code[pc]; word {
	case "br":
		if letters, found := s.label(pc, x.A); s.need(found, pc, "label") {
			s.splits(pc, letters)
		}
	case "brtable":
		var brought []string
		for _, number := range x.L {
			letters, found := s.label(pc, int64(number))
			if !s.need(found, pc, "label") {
				return
			}
			brought = append(brought, letters)
		}
		if s.need(len(slices.Compact(slices.Clone(brought))) == 1, pc, "labels") {
			s.splits(pc, brought[0]+"w")
		}
	case "return":
		s.splits(pc, s.own.Results)
	}
}

// single: calls, locals and globals, and plain ones.
func (s *said) single(pc int, word string, number int64) {
	locals := s.own.Params + s.f.Locals
	counts := map[string]int{"call": len(s.m.Functions), "host": len(s.m.Hosts), "get": len(locals), "set": len(locals), "tee": len(locals), "gget": len(s.m.Globals), "gset": len(s.m.Globals)}
	if count, numbered := counts[word]; numbered && !s.need(number < int64(count), pc, "index") {
		return
	}
	switch word {
	case "call", "host":
		kind := 0
		if word == "call" {
			kind = s.m.Functions[number].Type
		} else {
			kind = s.m.Hosts[number]
		}
		s.turns(pc, s.m.Types[kind].Params, s.m.Types[kind].Results)
	case "get":
		s.turns(pc, "", locals[number:number+1])
	case "set":
		s.turns(pc, locals[number:number+1], "")
	case "tee":
		s.turns(pc, locals[number:number+1], locals[number:number+1])
	case "gget":
		s.turns(pc, "", string(s.m.Globals[number].Letter))
	case "gset":
		if s.need(s.m.Globals[number].Mutable, pc, "mutable") {
			s.turns(pc, string(s.m.Globals[number].Letter), "")
		}
	default:
		row, _ := ops.Of(s.f.Code[pc].Op)
		if !row.Plain {
			panic(word)
		}
		s.turns(pc, row.Pops, row.Pushes)
	}
}

// TestOracle holds the oracle itself against shapes of which each thing that it can name is broken.
func TestOracle(t *testing.T) {
	for _, x := range []struct{ code, shapes, faults string }{
		{"trap end", ". w", ""},
		{"trap end", ". .", "1 left"},
		{"trap end", "w w", "0 first"},
		{"trap end", ". x", "1 shape;1 left"},
		{"trap end", ".", "count"},
		{"nop", ".", "code"},
		{"trap nop end", ". w w", "0 behind"},
		{"w.const:1 if:0 w.const:2 end end", ". w . w w", "1 same"},
		{"w.const:1 block:2 drop end end", ". w w . w", "2 top;3 left"},
		{"block:1 end end", ". . w", "0 top;1 base"},
		{"block:99 end end", ". . w", "0 index;1 base"},
		{"w.const w.const brif:1 end", ". w ww w", "2 label"},
		{"w.const if:0 trap else trap end end", ". w . l l w w", "1 else;3 left"},
		{"block:2 w.const w.const brtable:0,1 end trap end", ". . w ww . . w", "3 labels"},
		{"w.const gset:0 trap end", ". w . w", "1 mutable"},
		{"block:0 trap end trap end", ". . w l w", "2 next"},
	} {
		if got := strings.Join(broken(of(0, x.code), 0, shapesOf(x.shapes)), ";"); got != x.faults {
			t.Errorf("%s, of %s: %s, not %s", x.code, x.shapes, got, x.faults)
		}
	}
}

package validate_test

import (
	"math/rand"
	"slices"
	"strings"
	"testing"

	"flagon/api"
)

// plan is what opens and ends where, of a code that is nested as it must be.
type plan struct{ ends, elses, owners []int }

func planned(code []api.Ins) plan {
	p := plan{at(len(code), nil), at(len(code), nil), at(len(code), nil)}
	open := []int{-1}
	for pc, x := range code {
		inner := open[len(open)-1]
		p.owners[pc] = inner
		switch wordOf[x.Op] {
		case "block", "loop", "if":
			open = append(open, pc)
		case "else":
			p.elses[inner] = pc
		case "end":
			open = open[:len(open)-1]
			if inner >= 0 {
				p.ends[inner] = pc
			}
		}
	}
	return p
}

// judgement is chapter 11's, of one function and shapes that somebody says.
type judgement struct {
	plan
	m       api.Module
	locals  string
	results string
	code    []api.Ins
	shapes  []string
}

// judged: does the judgement hold? The code is one that control.Map takes.
func judged(m api.Module, function int, shapes []string) bool {
	f := m.Functions[function]
	x := m.Types[f.Type]
	j := judgement{planned(f.Code), m, x.Params + f.Locals, x.Results, f.Code, shapes}
	if len(shapes) != len(f.Code) || shapes[0] != "" {
		return false
	}
	for pc := range f.Code {
		if len(shapes[pc]) > 256 || !j.row(pc) {
			return false
		}
	}
	return true
}

// sig is the type of an opener, or of the body; not, if there is none.
func (j judgement) sig(opener int) (api.Sig, bool) {
	if opener == -1 {
		return api.Sig{Results: j.results}, true
	}
	number := j.code[opener].A
	if number >= int64(len(j.m.Types)) {
		return api.Sig{}, false
	}
	return j.m.Types[number], true
}

// base is B(o).
func (j judgement) base(opener int) string {
	if opener == -1 {
		return ""
	}
	x, _ := j.sig(opener)
	top := x.Params
	if wordOf[j.code[opener].Op] == "if" {
		top += "w"
	}
	return strings.TrimSuffix(j.shapes[opener], top)
}

// is: "S(p) is X y"; it answers B(o) X.
func (j judgement) is(pc int, top string) (string, bool) {
	base := j.base(j.owners[pc])
	rest, found := strings.CutSuffix(j.shapes[pc], top)
	return rest, found && strings.HasPrefix(rest, base)
}

// turns: S(p) is X pops, and S(p+1) = B(o) X pushes.
func (j judgement) turns(pc int, pops, pushes string) bool {
	rest, found := j.is(pc, pops)
	return found && j.shapes[pc+1] == rest+pushes
}

// brings: what the labels of those numbers bring, if all are labels' and bring the same.
func (j judgement) brings(pc int, numbers ...int) (string, bool) {
	var list []string
	for _, number := range numbers {
		opener := j.owners[pc]
		for ; number > 0 && opener != -1; number-- {
			opener = j.owners[opener]
		}
		x, _ := j.sig(opener)
		if number > 0 {
			return "", false
		}
		if opener >= 0 && wordOf[j.code[opener].Op] == "loop" {
			list = append(list, x.Params)
		} else {
			list = append(list, x.Results)
		}
	}
	return list[0], len(slices.Compact(list)) == 1
}

// row: does what stands in the row of the instruction at pc hold?
func (j judgement) row(pc int) bool {
	x, owner := j.code[pc], j.owners[pc]
	word := wordOf[x.Op]
	own, _ := j.sig(owner)
	switch word {
	case "block", "loop", "if":
		return j.opens(pc, word)
	case "else":
		whole := j.base(owner) + own.Results
		return j.shapes[pc] == whole && j.shapes[j.ends[owner]] == whole
	case "end":
		whole := j.base(owner) + own.Results
		return j.shapes[pc] == whole && (owner == -1 || j.shapes[pc+1] == whole)
	case "trap", "br", "brtable", "return":
		next := wordOf[j.code[pc+1].Op]
		return (next == "else" || next == "end") && j.leaves(pc, word)
	case "brif":
		y, found := j.brings(pc, int(x.A))
		return found && j.turns(pc, y+"w", y)
	case "drop":
		return j.turns(pc, "w", "") || j.turns(pc, "l", "")
	case "select":
		return j.turns(pc, "www", "w") || j.turns(pc, "llw", "l")
	}
	pops, pushes, found := j.moves(x, word)
	return found && j.turns(pc, pops, pushes)
}

func (j judgement) opens(pc int, word string) bool {
	x, found := j.sig(pc)
	if !found {
		return false
	}
	if word != "if" {
		return j.turns(pc, x.Params, x.Params)
	}
	rest, found := j.is(pc, x.Params+"w")
	if !found || j.shapes[pc+1] != rest+x.Params {
		return false
	}
	if other := j.elses[pc]; other >= 0 {
		return j.shapes[other+1] == rest+x.Params
	}
	return x.Params == x.Results && j.shapes[j.ends[pc]] == rest+x.Results
}

func (j judgement) leaves(pc int, word string) bool {
	y, found := "", true
	switch word {
	case "br":
		y, found = j.brings(pc, int(j.code[pc].A))
	case "brtable":
		y, found = j.brings(pc, j.code[pc].L...)
		y += "w"
	case "return":
		y = j.results
	}
	_, top := j.is(pc, y)
	return found && top
}

// moves: the letters of calls, of locals and globals, and of plain instructions.
func (j judgement) moves(x api.Ins, word string) (pops, pushes string, found bool) {
	count := map[string]int{"call": len(j.m.Functions), "host": len(j.m.Hosts), "get": len(j.locals), "set": len(j.locals), "tee": len(j.locals), "gget": len(j.m.Globals), "gset": len(j.m.Globals)}
	if most, numbered := count[word]; numbered && x.A >= int64(most) {
		return "", "", false
	}
	switch word {
	case "call":
		s := j.m.Types[j.m.Functions[x.A].Type]
		return s.Params, s.Results, true
	case "host":
		s := j.m.Types[j.m.Hosts[x.A]]
		return s.Params, s.Results, true
	case "get":
		return "", j.locals[x.A:][:1], true
	case "set":
		return j.locals[x.A:][:1], "", true
	case "tee":
		return j.locals[x.A:][:1], j.locals[x.A:][:1], true
	case "gget":
		return "", string(j.m.Globals[x.A].Letter), true
	case "gset":
		return string(j.m.Globals[x.A].Letter), "", j.m.Globals[x.A].Mutable
	}
	return plain[word].pops, plain[word].pushes, true
}

// followed: what follows, of a function's table.
func followed(t *testing.T, m api.Module, function int, table api.Table) {
	t.Helper()
	code := m.Functions[function].Code
	p := planned(code)
	longest := 0
	for pc, s := range table.Shapes {
		longest = max(longest, len(s))
		for owner := p.owners[pc]; owner >= 0; owner = p.owners[owner] {
			if floor := table.Floors[owner]; floor > len(s) || s[:floor] != table.Shapes[owner][:floor] {
				t.Fatalf("what follows: %s: %q at %d, in the opener at %d over %d of %q", told(code), s, pc, owner, floor, table.Shapes[owner])
			}
		}
	}
	if table.Highest != longest {
		t.Fatalf("what follows: %s: Highest %d, and %d letters", told(code), table.Highest, longest)
	}
	if !judged(m, function, table.Shapes) {
		t.Fatalf("W5: %s: the judgement does not hold of %q", told(code), table.Shapes)
	}
}

// otherShapes is the list with one text changed.
func otherShapes(r *rand.Rand, shapes []string) []string {
	out := slices.Clone(shapes)
	pc := r.Intn(len(out))
	s := out[pc]
	switch at := r.Intn(len(s) + 1); {
	case at == len(s):
		s += string("wl"[r.Intn(2)])
	case r.Intn(2) == 0:
		s = s[:at] + s[at+1:]
	default:
		s = s[:at] + other(s[at:at+1]) + s[at+1:]
	}
	out[pc] = s
	return out
}

// TestFollowsDrawn: what follows, at drawn modules.
func TestFollowsDrawn(t *testing.T) {
	r := rand.New(rand.NewSource(102))
	for n := range 3000 {
		m := drawnModule(r)
		if n%2 == 0 {
			m = changed(r, m)
		}
		for function := range m.Functions {
			got := asked(m, function)
			if got.e != api.OK {
				continue
			}
			followed(t, m, function, got.table)
			for range 5 {
				if others := otherShapes(r, got.table.Shapes); judged(m, function, others) {
					t.Fatalf("W5: %s: the judgement holds of %q, too", told(m.Functions[function].Code), others)
				}
			}
		}
	}
}

// lowShapes are all lists of so many shapes of at most two letters of which the judgement holds.
func lowShapes(m api.Module, count int) [][]string {
	var found [][]string
	var say func(shapes []string)
	say = func(shapes []string) {
		if len(shapes) < count {
			for _, s := range []string{"", "w", "l", "ww", "wl", "lw", "ll"} {
				say(append(shapes, s))
			}
		} else if judged(m, 0, shapes) {
			found = append(found, slices.Clone(shapes))
		}
	}
	say([]string{""})
	return found
}

// TestFollowsShort: of each short code there is a table just if the judgement holds of some shapes, of just one list then.
func TestFollowsShort(t *testing.T) {
	m := one("")
	m.Functions, m.Exports = m.Functions[:1], nil
	for most, words := range map[int]string{3: "w.const l.const drop block:1 if:2 if:0 else end br:0 br:1 trap w.eqz", 4: "w.const drop if:1 else end br:0 trap"} {
		allCodes(strings.Fields(words), most, func(code []api.Ins) {
			if !nested(code) {
				return
			}
			m.Functions[0].Code = code
			got, found := asked(m, 0), lowShapes(m, len(code))
			switch {
			case got.e != api.OK && len(found) > 0:
				t.Fatalf("W5: %s: %d at %d, and the judgement holds of %q", told(code), got.e, got.pc, found)
			case got.e == api.OK && got.table.Highest <= 2 && (len(found) != 1 || !slices.Equal(found[0], got.table.Shapes)):
				t.Fatalf("W5: %s: %q, and the judgement holds of %q", told(code), got.table.Shapes, found)
			}
		})
	}
}

// nested: is the code one that control.Map takes?
func nested(code []api.Ins) (so bool) {
	defer func() { so = recover() == nil }()
	nesting(code)
	return
}

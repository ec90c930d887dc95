package lower_test

import (
	"math/rand"
	"slices"
	"strconv"
	"strings"
	"testing"

	"flagon/api"
	"flagon/blocks"
	"flagon/control"
	"flagon/lower"
	"flagon/step"
	"flagon/validate"
)

// letterOf is that of a local of the function.
func letterOf(m api.Module, f int, number int64) string {
	own := m.Functions[f]
	return (m.Types[own.Type].Params + own.Locals)[number:][:1]
}

// effectOf is what an instruction takes off and puts on ahead of its ways.
func effectOf(m api.Module, f int, s string, x api.Ins) effect {
	sig := func(number int) effect { return effect{m.Types[number].Params, m.Types[number].Results} }
	switch wordOf[x.Op] {
	case "if", "brif", "brtable":
		return effect{"w", ""}
	case "call":
		return sig(m.Functions[x.A].Type)
	case "host":
		return sig(m.Hosts[x.A])
	case "drop":
		return effect{s[len(s)-1:], ""}
	case "select":
		return effect{s[len(s)-2:], ""}
	case "get":
		return effect{"", letterOf(m, f, x.A)}
	case "set":
		return effect{letterOf(m, f, x.A), ""}
	case "gget":
		return effect{"", string(m.Globals[x.A].Letter)}
	case "gset":
		return effect{string(m.Globals[x.A].Letter), ""}
	}
	return plain[wordOf[x.Op]]
}

// stays is what of a shape there is along a way.
func stays(s string, w lower.Way) (string, bool) {
	if w.Floor == -1 {
		return s, w.Keep == 0
	}
	at := len(s) - w.Keep
	if w.Keep < 0 || w.Floor < 0 || at < w.Floor {
		return "", false
	}
	return s[:w.Floor] + s[at:], true
}

// along: does each way lead to a place whose shape is what stays of the shape here? Behind the function stand its results.
func along(t *testing.T, m api.Module) (ways int) {
	t.Helper()
	tables, _, _, _ := validate.Module(m)
	for f, own := range m.Functions {
		shapes := tables[f].Shapes
		for pc, l := range asked(t, m, f) {
			x := effectOf(m, f, shapes[pc], own.Code[pc])
			behind, found := strings.CutSuffix(shapes[pc], x.pops)
			if !found {
				t.Fatalf("%q at %d takes off %q: %s", shapes[pc], pc, x.pops, told(m, f))
			}
			for _, w := range l.Ways {
				ways++
				want := m.Types[own.Type].Results
				if w.To != -1 {
					want = shapes[w.To]
				}
				if got, ok := stays(behind+x.pushes, w); !ok || got != want {
					t.Fatalf("P18.1: at %d of %s: %v leads with %q to %q", pc, told(m, f), w, got, want)
				}
			}
		}
	}
	return ways
}

// parts: does control leave a segment at its last instruction alone, and come into one at its beginning alone?
func parts(t *testing.T, m api.Module) {
	t.Helper()
	for f, own := range m.Functions {
		lines := asked(t, m, f)
		for pc, l := range lines {
			if (len(l.Ways) == 0) != (wordOf[own.Code[pc].Op] == "trap") {
				t.Fatalf("P18.1: %d ways at %d of %s", len(l.Ways), pc, told(m, f))
			}
			for _, w := range l.Ways {
				inside := w == lower.Way{To: pc + 1, Floor: -1} && l.Left > 1
				if inside && (lines[w.To].Start != l.Start || lines[w.To].Left != l.Left-1) {
					t.Fatalf("P18.1: the segment at %d of %s ends ahead of %d", l.Start, told(m, f), w.To)
				}
				if !inside && l.Left != 1 {
					t.Fatalf("P18.1: %v leads out of the midst of a segment, at %d of %s", w, pc, told(m, f))
				}
				if !inside && w.To != -1 && lines[w.To].Start != w.To {
					t.Fatalf("P18.1: %v leads into the midst of a segment, at %d of %s", w, pc, told(m, f))
				}
			}
		}
	}
}

// beside: the places are those of control.Next, Start and Left those of blocks.Of.
func beside(t *testing.T, m api.Module) {
	t.Helper()
	tables, _, _, _ := validate.Module(m)
	for f, own := range m.Functions {
		cut := blocks.Of(own.Code, tables[f])
		for pc, l := range asked(t, m, f) {
			var places []int
			for _, w := range l.Ways {
				if w.To == -1 {
					w.To = len(own.Code)
				}
				places = append(places, w.To)
			}
			slices.Sort(places)
			if next := control.Next(own.Code, pc); !slices.Equal(slices.Compact(places), next) {
				t.Fatalf("P18.1: from %d of %s to %v, not %v", pc, told(m, f), places, next)
			}
			if l.Start != cut.Start[pc] || l.Left != cut.Left[pc] {
				t.Fatalf("P18.1: %d of %s: %d, %d, not %d, %d", pc, told(m, f), l.Start, l.Left, cut.Start[pc], cut.Left[pc])
			}
		}
	}
}

// TestDrawn: modules of all kinds, beside the oracle and beside what follows; each instruction is met.
func TestDrawn(t *testing.T) {
	r := rand.New(rand.NewSource(181))
	met, ways := map[byte]int{}, 0
	for n := range 900 {
		m := drawnModule(r, 1+r.Intn(50+n%3*150))
		hold(t, m)
		ways += along(t, m)
		parts(t, m)
		beside(t, m)
		for _, f := range m.Functions {
			for _, x := range f.Code {
				met[x.Op]++
			}
		}
	}
	for op, word := range wordOf {
		if met[op] == 0 {
			t.Errorf("%s is not met", word)
		}
	}
	if ways < 50000 {
		t.Errorf("%d ways", ways)
	}
}

// TestSegments: codes of one segment, and of more; a segment that is full goes on in another one.
func TestSegments(t *testing.T) {
	for count := range 70 {
		m := of(">", "", "nop*"+strconv.Itoa(count)+" end")
		if count == 0 {
			m = of(">", "", "end")
		}
		for pc, l := range asked(t, m, 0) {
			start := pc / 16 * 16
			if l.Start != start || l.Left != min(start+16, count+1)-pc {
				t.Errorf("P18.1: %d of %d: %d, %d", pc, count+1, l.Start, l.Left)
			}
		}
	}
	for _, code := range []string{
		"loop:> nop*15 br:0 end end", "loop:> nop*16 br:0 end end", "loop:> nop*17 w.const brif:0 end nop*40 end",
		"nop*14 w.const if:> nop*20 else nop*33 end nop*3 end", "nop*13 w.const if:> nop*15 end nop*16 end",
		"block:> nop*14 end nop end", "block:> nop*15 end nop end", "block:> block:> nop*30 w.const brtable:0,1,2 end nop*30 end nop*30 end",
		"nop*20 call:0 nop*20 return end", "block:> nop*15 trap end nop*15 trap end", "nop*2047 end", "block:> nop*2045 end end",
	} {
		m := of(">", "", code)
		hold(t, m)
		along(t, m)
		parts(t, m)
		beside(t, m)
	}
}

// TestRuns: steps go along the ways: an if and a brif that find a 0 along the second one, a brtable along the one that it chooses.
func TestRuns(t *testing.T) {
	r := rand.New(rand.NewSource(182))
	met := map[string]int{}
	for range 500 {
		m := drawnModule(r, 40)
		all, e := lower.Module(m)
		if e != api.OK {
			t.Fatal(e)
		}
		s, script := drawnBeginning(r, m), drawnScript(r, m)
		for range 60 {
			next, e := step.Step(m, script, s)
			if e != api.OK {
				t.Fatal(e)
			}
			goes(t, m, all, s, next, met)
			if s = next; s.End != api.Suspended {
				break
			}
		}
	}
	for _, what := range []string{"if 0", "if 1", "else 0", "br 0", "brif 0", "brif 1", "brtable 0", "brtable 1", "return 0", "end 0"} {
		if met[what] < 10 {
			t.Errorf("%d times: %s", met[what], what)
		}
	}
}

// chosen: which way the instruction goes.
func chosen(x api.Ins, stack []uint64) int {
	switch top := stack[max(len(stack)-1, 0):]; wordOf[x.Op] {
	case "if", "brif":
		if top[0] == 0 {
			return 1
		}
	case "brtable":
		return int(min(top[0], uint64(len(x.L)-1)))
	}
	return 0
}

// goes: does that step lead along a way of its line?
func goes(t *testing.T, m api.Module, all [][]lower.Line, s, next api.State, met map[string]int) {
	t.Helper()
	last := s.Frames[len(s.Frames)-1]
	x, l := m.Functions[last.Function].Code[last.Pc], all[last.Function][last.Pc]
	word := wordOf[x.Op]
	if next.End == api.Trapped || word == "call" {
		return
	}
	which := chosen(x, last.Stack)
	w := l.Ways[which]
	met[word+" "+strconv.Itoa(which)]++
	values := last.Stack
	if word == "if" || word == "brif" || word == "brtable" {
		values = values[:len(values)-1]
	}
	kept := values[max(len(values)-w.Keep, 0):]
	if w.To == -1 {
		if next.End == api.Suspended {
			caller := next.Frames[len(next.Frames)-1]
			next.Results = caller.Stack[len(caller.Stack)-w.Keep:]
		}
		if len(next.Frames) != len(s.Frames)-1 || !slices.Equal(next.Results, kept) {
			t.Fatalf("P18.1: at %d of %s not out of the function", last.Pc, told(m, last.Function))
		}
		return
	}
	f := next.Frames[len(next.Frames)-1]
	if f.Pc != w.To || len(next.Frames) != len(s.Frames) {
		t.Fatalf("P18.1: from %d of %s to %d, not along %v", last.Pc, told(m, last.Function), f.Pc, w)
	}
	if w.Floor >= 0 {
		values = append(slices.Clone(values[:w.Floor]), kept...)
	}
	if x.Op <= 0x0a && !slices.Equal(f.Stack, values) {
		t.Fatalf("P18.1: from %d of %s with %v, not %v", last.Pc, told(m, last.Function), f.Stack, values)
	}
}

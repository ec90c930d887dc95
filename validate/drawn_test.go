package validate_test

import (
	"maps"
	"math/rand"
	"slices"
	"strings"
	"testing"

	"flagon/api"
)

// Modules that are drawn: functions that may run, and such that were changed.

// drawer draws the code of one function of a module, going along with its shape.
type drawer struct {
	r       *rand.Rand
	m       api.Module
	locals  string
	results string
	code    []api.Ins
	left    int // about how many instructions may still come
}

func letters(r *rand.Rand, most int) string {
	out := ""
	for range r.Intn(most + 1) {
		out += string("wl"[r.Intn(2)])
	}
	return out
}

// drawnModule is a module that may run.
func drawnModule(r *rand.Rand) api.Module {
	m := api.Module{Types: []api.Sig{{}}}
	for range 1 + r.Intn(8) {
		x := api.Sig{Params: letters(r, 2), Results: letters(r, 2)}
		if r.Intn(3) == 0 {
			x.Results = x.Params
		}
		if !slices.Contains(m.Types, x) {
			m.Types = append(m.Types, x)
		}
	}
	for range r.Intn(4) {
		m.Hosts = append(m.Hosts, r.Intn(len(m.Types)))
	}
	for range r.Intn(5) {
		m.Globals = append(m.Globals, api.Global{Letter: "wl"[r.Intn(2)], Mutable: r.Intn(2) == 0, Value: uint64(r.Uint32())})
	}
	for range 1 + r.Intn(4) {
		m.Functions = append(m.Functions, api.Function{Type: r.Intn(len(m.Types)), Locals: letters(r, 4)})
	}
	for i := range m.Functions {
		f := &m.Functions[i]
		x := m.Types[f.Type]
		d := &drawer{r: r, m: m, locals: x.Params + f.Locals, results: x.Results, left: r.Intn(60)}
		d.inside("", "", x.Results, []string{x.Results}, 1+r.Intn(6))
		d.put("end")
		f.Code = d.code
	}
	return m
}

func (d *drawer) put(text string) {
	d.code = append(d.code, written(text)...)
	d.left--
}

func (d *drawer) number(word string, number int) {
	d.code = append(d.code, api.Ins{Op: opcodeOf[word], A: int64(number)})
	d.left--
}

// inside draws what leads from the shape s to the base and the results, or to a way's end.
func (d *drawer) inside(base, s, results string, labels []string, depth int) {
	for d.left > 0 && d.r.Intn(12) != 0 {
		if depth > 0 && d.r.Intn(4) == 0 {
			s = d.opener(base, s, labels, depth)
			continue
		}
		s = d.single(base, s, labels)
	}
	if d.r.Intn(3) == 0 {
		d.wayEnd(labels)
		return
	}
	for s != base+results {
		if rest, found := strings.CutPrefix(base+results, s); found {
			d.put(consts(rest))
			return
		}
		d.put("drop")
		s = s[:len(s)-1]
	}
}

// opener draws a block, loop or if whose parameters are there, or are put there.
func (d *drawer) opener(base, s string, labels []string, depth int) string {
	number := d.r.Intn(len(d.m.Types))
	x := d.m.Types[number]
	if !strings.HasSuffix(s[len(base):], x.Params) {
		d.put(consts(x.Params))
		s += x.Params
	}
	below := strings.TrimSuffix(s, x.Params)
	word, brings := []string{"block", "loop", "if"}[d.r.Intn(3)], x.Results
	if word == "if" {
		d.put("w.const")
	}
	if word == "loop" {
		brings = x.Params
	}
	d.number(word, number)
	inner := append([]string{brings}, labels...)
	d.inside(below, s, x.Results, inner, depth-1)
	if word == "if" && (x.Params != x.Results || d.r.Intn(2) == 0) {
		d.put("else")
		d.inside(below, s, x.Results, inner, depth-1)
	}
	d.put("end")
	return below + x.Results
}

// wayEnd draws one, with what it asks for.
func (d *drawer) wayEnd(labels []string) {
	switch d.r.Intn(4) {
	case 0:
		d.put("trap")
	case 1:
		d.put(consts(d.results) + "return")
	case 2:
		number := d.r.Intn(len(labels))
		d.put(consts(labels[number]))
		d.number("br", number)
	default:
		brings := labels[d.r.Intn(len(labels))]
		x := api.Ins{Op: opcodeOf["brtable"]}
		for len(x.L) == 0 || d.r.Intn(3) != 0 && len(x.L) < 16 {
			if number := d.r.Intn(len(labels)); labels[number] == brings {
				x.L = append(x.L, number)
			}
		}
		d.put(consts(brings + "w"))
		d.code = append(d.code, x)
	}
}

// single draws an instruction that may stand there, and goes on at the next pc; constants, if none is found.
func (d *drawer) single(base, s string, labels []string) string {
	words := slices.Sorted(maps.Keys(opcodeOf))
	for range 40 {
		word := words[d.r.Intn(len(words))]
		if d.r.Intn(2) == 0 {
			word = []string{"get", "set", "tee", "gget", "gset", "call", "host", "brif", "drop", "select"}[d.r.Intn(10)]
		}
		if next, found := d.may(word, base, s, labels); found {
			return next
		}
	}
	letter := string("wl"[d.r.Intn(2)])
	d.put(consts(letter))
	return s + letter
}

// may puts the instruction with a number that is drawn, if it may stand there.
func (d *drawer) may(word, base, s string, labels []string) (string, bool) {
	number, x, found := d.effect(word, s[len(base):], labels)
	if !found || !strings.HasSuffix(s[len(base):], x.pops) || len(s)-len(x.pops)+len(x.pushes) > 256 {
		return "", false
	}
	d.number(word, number)
	return s[:len(s)-len(x.pops)] + x.pushes, true
}

// effect draws the number of an instruction, and tells what it takes off and puts on then; not, if there is none.
func (d *drawer) effect(word, above string, labels []string) (int, effect, bool) {
	sig := func(number, kind int) (int, effect, bool) {
		return number, effect{d.m.Types[kind].Params, d.m.Types[kind].Results}, true
	}
	held := func(number int, letter byte) (int, effect, bool) {
		y := string(letter)
		x := map[string]effect{"get": {"", y}, "gget": {"", y}, "set": {y, ""}, "gset": {y, ""}, "tee": {y, y}}[word]
		return number, x, true
	}
	switch word {
	case "call":
		number := d.r.Intn(len(d.m.Functions))
		return sig(number, d.m.Functions[number].Type)
	case "host":
		if len(d.m.Hosts) > 0 {
			number := d.r.Intn(len(d.m.Hosts))
			return sig(number, d.m.Hosts[number])
		}
	case "get", "set", "tee":
		if len(d.locals) > 0 {
			number := d.r.Intn(len(d.locals))
			return held(number, d.locals[number])
		}
	case "gget", "gset":
		if len(d.m.Globals) > 0 {
			number := d.r.Intn(len(d.m.Globals))
			_, x, _ := held(number, d.m.Globals[number].Letter)
			return number, x, word == "gget" || d.m.Globals[number].Mutable
		}
	case "brif":
		number := d.r.Intn(len(labels))
		return number, effect{labels[number] + "w", labels[number]}, true
	case "drop":
		if above != "" {
			return 0, effect{above[len(above)-1:], ""}, true
		}
	case "select":
		y := "wl"[d.r.Intn(2):][:1]
		return 0, effect{y + y + "w", y}, true
	}
	x, found := plain[word]
	return 0, x, found
}

// changed is the module with one to three instructions changed, left out, doubled or put in.
func changed(r *rand.Rand, m api.Module) api.Module {
	ops := slices.Sorted(maps.Keys(wordOf))
	for range 1 + r.Intn(3) {
		f := &m.Functions[r.Intn(len(m.Functions))]
		x := api.Ins{Op: ops[r.Intn(len(ops))]}
		switch word := wordOf[x.Op]; word {
		case "brtable":
			for range 1 + r.Intn(4) {
				x.L = append(x.L, r.Intn(5))
			}
		case "block", "loop", "if", "br", "brif", "call", "host", "get", "set", "tee", "gget", "gset":
			x.A = int64(r.Intn(9))
		}
		at := r.Intn(len(f.Code))
		switch r.Intn(5) {
		case 0:
			f.Code[at] = x
		case 1:
			if len(f.Code) > 1 {
				f.Code = slices.Delete(f.Code, at, at+1)
			}
		case 2:
			f.Code = slices.Insert(f.Code, at, x)
		case 3:
			f.Code = slices.Insert(f.Code, at, f.Code[at])
		default:
			if word := wordOf[f.Code[at].Op]; word != "brtable" && f.Code[at].A > 0 {
				f.Code[at].A += int64(r.Intn(3) - 1)
			}
		}
	}
	return m
}

// TestDrawn: modules that may run, and such that were changed, as the document's rules say.
func TestDrawn(t *testing.T) {
	r := rand.New(rand.NewSource(101))
	for range 4000 {
		m := drawnModule(r)
		for function := range m.Functions {
			if got := want(m, function); got.e != api.OK {
				t.Fatalf("%s is drawn as one that may run: %d at %d", told(m.Functions[function].Code), got.e, got.pc)
			}
		}
		hold(t, m)
		hold(t, changed(r, m))
	}
}

// allCodes calls on every code of up to so many of those words, and an end behind them.
func allCodes(words []string, most int, on func(code []api.Ins)) {
	end := written("end")
	var grow func(code []api.Ins)
	grow = func(code []api.Ins) {
		on(append(slices.Clone(code), end...))
		if len(code) == most {
			return
		}
		for _, word := range words {
			grow(append(slices.Clone(code), written(word)...))
		}
	}
	grow(nil)
}

// TestShort: all short codes.
func TestShort(t *testing.T) {
	wide := strings.Fields("trap nop block:0 block:1 loop:1 if:1 if:0 else end br:0 br:1 brif:0 brtable:0,1 return call:1 host:0 drop select get:0 set:0 tee:1 gget:0 gset:0 gset:1 w.const l.const w.eqz w.add l.store")
	for most, words := range map[int][]string{3: wide, 4: strings.Fields("w.const l.const drop block:1 loop:6 if:0 if:1 else end br:0 brif:1 return trap"), 6: strings.Fields("w.const if:1 else end br:0 block:0")} {
		m := one("")
		m.Functions, m.Exports = m.Functions[:2], nil
		allCodes(words, most, func(code []api.Ins) {
			m.Functions[0].Code = code
			if got, expected := asked(m, 0), want(m, 0); !sameAnswer(got, expected) {
				t.Fatalf("P10.1: %s: %v, not %v", told(code), got, expected)
			}
		})
	}
}

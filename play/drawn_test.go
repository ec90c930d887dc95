package play_test

import (
	"maps"
	"math/rand"
	"slices"
	"strings"

	"flagon/api"
	"flagon/validate"
)

// drawer draws the code of one function of a module, going along with its shape.
type drawer struct {
	r       *rand.Rand
	m       *api.Module
	locals  string
	results string
	code    []api.Ins
	left    int // about how many instructions may still come
}

func drawnLetters(r *rand.Rand, most int) string {
	out := ""
	for range r.Intn(most + 1) {
		out += string("wl"[r.Intn(2)])
	}
	return out
}

// drawnValue: one of that letter, often small, near the end of a page, or at an end of its range.
func drawnValue(r *rand.Rand, letter byte) uint64 {
	v := []uint64{0, 1, uint64(r.Intn(4)), uint64(r.Intn(20)), uint64(size - 10 + r.Intn(20)), edges()[r.Intn(len(edges()))], r.Uint64()}[r.Intn(7)]
	if letter == 'w' {
		v %= high
	}
	return v
}

func drawnValues(r *rand.Rand, letters string) []uint64 {
	list := make([]uint64, len(letters))
	for at := range list {
		list[at] = drawnValue(r, letters[at])
	}
	return list
}

// drawnModule is a module that may run.
func drawnModule(r *rand.Rand) api.Module {
	m := api.Module{Types: []api.Sig{{}}, First: r.Intn(2)}
	m.Most = m.First + r.Intn(3)
	for range 1 + r.Intn(8) {
		x := api.Sig{Params: drawnLetters(r, 3), Results: drawnLetters(r, 3)}
		if r.Intn(3) == 0 {
			x.Results = x.Params
		}
		if !slices.Contains(m.Types, x) {
			m.Types = append(m.Types, x)
		}
	}
	for range r.Intn(4) {
		m.Hosts = append(m.Hosts, r.Intn(len(m.Types)))
	}
	for range r.Intn(5) {
		letter := "wl"[r.Intn(2)]
		m.Globals = append(m.Globals, api.Global{Letter: letter, Mutable: r.Intn(3) > 0, Value: drawnValue(r, letter)})
	}
	for range 1 + r.Intn(4) {
		m.Functions = append(m.Functions, api.Function{Type: r.Intn(len(m.Types)), Locals: drawnLetters(r, 4)})
	}
	for i := range m.Functions {
		f := &m.Functions[i]
		x := m.Types[f.Type]
		d := &drawer{r: r, m: &m, locals: x.Params + f.Locals, results: x.Results, left: r.Intn(50)}
		d.inside("", "", x.Results, []string{x.Results}, 1+r.Intn(5))
		d.put("end", 0)
		f.Code = d.code
	}
	return m
}

func (d *drawer) put(word string, number int64) {
	d.code = append(d.code, api.Ins{Op: opcodeOf[word], A: number})
	d.left--
}

// push draws a constant, or a local, for each letter.
func (d *drawer) push(letters string) {
	for at := range letters {
		letter := letters[at]
		if n := strings.LastIndexByte(d.locals, letter); n >= 0 && d.r.Intn(3) == 0 {
			d.put("get", int64(n))
			continue
		}
		v := drawnValue(d.r, letter)
		if letter == 'w' {
			d.put("w.const", int64(int32(v)))
		} else {
			d.put("l.const", int64(v))
		}
	}
}

// inside draws what leads from the shape s to the base and the results, or to a way's end.
func (d *drawer) inside(base, s, results string, labels []string, depth int) {
	for d.left > 0 && d.r.Intn(12) != 0 {
		if depth > 0 && d.r.Intn(4) == 0 {
			s = d.opener(base, s, labels, depth)
			continue
		}
		s = d.single(base, s, labels)
	}
	if d.r.Intn(3) == 0 {
		d.wayEnd(labels)
		return
	}
	for s != base+results {
		if rest, found := strings.CutPrefix(base+results, s); found {
			d.push(rest)
			return
		}
		d.put("drop", 0)
		s = s[:len(s)-1]
	}
}

// opener draws a block, loop or if whose parameters are there, or are put there.
func (d *drawer) opener(base, s string, labels []string, depth int) string {
	number := d.r.Intn(len(d.m.Types))
	x := d.m.Types[number]
	if !strings.HasSuffix(s[len(base):], x.Params) {
		d.push(x.Params)
		s += x.Params
	}
	below := strings.TrimSuffix(s, x.Params)
	word, brings := []string{"block", "loop", "if"}[d.r.Intn(3)], x.Results
	if word == "if" {
		d.push("w")
	}
	if word == "loop" {
		brings = x.Params
	}
	d.put(word, int64(number))
	inner := append([]string{brings}, labels...)
	d.inside(below, s, x.Results, inner, depth-1)
	if word == "if" && (x.Params != x.Results || d.r.Intn(2) == 0) {
		d.put("else", 0)
		d.inside(below, s, x.Results, inner, depth-1)
	}
	d.put("end", 0)
	return below + x.Results
}

// wayEnd draws one, with what it asks for.
func (d *drawer) wayEnd(labels []string) {
	number := d.r.Intn(len(labels))
	brings := labels[number]
	switch d.r.Intn(7) {
	case 0:
		d.put("trap", 0)
	case 1:
		d.push(d.results)
		d.put("return", 0)
	case 2, 3:
		d.push(brings)
		d.put("br", int64(number))
	default:
		x := api.Ins{Op: opcodeOf["brtable"]}
		for len(x.L) == 0 || d.r.Intn(3) != 0 && len(x.L) < 16 {
			if number := d.r.Intn(len(labels)); labels[number] == brings {
				x.L = append(x.L, number)
			}
		}
		d.push(brings + "w")
		d.code = append(d.code, x)
	}
}

// single draws an instruction that may stand there, or may when what it takes off is put there, and goes on at the next pc; a value, if none is found.
func (d *drawer) single(base, s string, labels []string) string {
	words := slices.Sorted(maps.Keys(opcodeOf))
	for range 40 {
		word := words[d.r.Intn(len(words))]
		if d.r.Intn(3) == 0 {
			word = []string{"get", "set", "tee", "gget", "gset", "call", "host", "brif", "drop", "select", "grow", "size"}[d.r.Intn(12)]
		}
		number, x, found := d.effect(word, s[len(base):], labels)
		if !found || len(s)+len(x.pops)+len(x.pushes) > 256 {
			continue
		}
		if !strings.HasSuffix(s[len(base):], x.pops) {
			if d.r.Intn(2) == 0 {
				continue
			}
			d.push(x.pops)
			s += x.pops
		}
		d.put(word, number)
		return s[:len(s)-len(x.pops)] + x.pushes
	}
	letter := string("wwl"[d.r.Intn(3)])
	d.push(letter)
	return s + letter
}

// effect draws the number of an instruction, and tells what it takes off and puts on then; not, if there is none.
func (d *drawer) effect(word, above string, labels []string) (int64, effect, bool) {
	sig := func(number, kind int) (int64, effect, bool) {
		return int64(number), effect{d.m.Types[kind].Params, d.m.Types[kind].Results}, true
	}
	held := func(number int, letter byte) (int64, effect, bool) {
		y := string(letter)
		x := map[string]effect{"get": {"", y}, "gget": {"", y}, "set": {y, ""}, "gset": {y, ""}, "tee": {y, y}}[word]
		return int64(number), x, true
	}
	switch word {
	case "call":
		number := d.r.Intn(len(d.m.Functions))
		return sig(number, d.m.Functions[number].Type)
	case "host":
		if len(d.m.Hosts) > 0 {
			number := d.r.Intn(len(d.m.Hosts))
			return sig(number, d.m.Hosts[number])
		}
	case "get", "set", "tee":
		if len(d.locals) > 0 {
			number := d.r.Intn(len(d.locals))
			return held(number, d.locals[number])
		}
	case "gget", "gset":
		if len(d.m.Globals) > 0 {
			number := d.r.Intn(len(d.m.Globals))
			n, x, _ := held(number, d.m.Globals[number].Letter)
			return n, x, word == "gget" || d.m.Globals[number].Mutable
		}
	case "brif":
		number := d.r.Intn(len(labels))
		return int64(number), effect{labels[number] + "w", labels[number]}, true
	case "drop":
		if above != "" {
			return 0, effect{above[len(above)-1:], ""}, true
		}
	case "select":
		y := "wl"[d.r.Intn(2):][:1]
		return 0, effect{y + y + "w", y}, true
	}
	x, found := plain[word]
	number := int64(0)
	if found && (strings.Contains(word, ".load") || strings.Contains(word, ".store") || strings.HasSuffix(word, ".const")) && d.r.Intn(2) == 0 {
		number = int64(d.r.Intn(12))
	}
	return number, x, found
}

// drawnScript: replies, many of which fit one of the module's hosts.
func drawnScript(r *rand.Rand, m api.Module) []api.Reply {
	var script []api.Reply
	for range r.Intn(8) {
		letters := drawnLetters(r, 3)
		if len(m.Hosts) > 0 && r.Intn(6) > 0 {
			letters = m.Types[m.Hosts[r.Intn(len(m.Hosts))]].Results
		}
		script = append(script, api.Reply{Results: drawnValues(r, letters), Trap: r.Intn(8) == 0})
	}
	return script
}

// drawnBeginning is where one of the module's functions begins.
func drawnBeginning(r *rand.Rand, m api.Module) api.State {
	function := r.Intn(len(m.Functions))
	f := m.Functions[function]
	locals := append(drawnValues(r, m.Types[f.Type].Params), make([]uint64, len(f.Locals))...)
	s := api.State{Frames: []api.Frame{{Function: function, Locals: locals}}, Pages: blank(m.First), End: suspended}
	for _, g := range m.Globals {
		s.Globals = append(s.Globals, g.Value)
	}
	return s
}

// drawnState is a state of the module that may be, though perhaps none comes to it: its frames stand anywhere, with any values.
func drawnState(r *rand.Rand, m api.Module) api.State {
	s := drawnBeginning(r, m)
	s.Pages = blank(m.First + r.Intn(m.Most-m.First+1))
	for _, p := range s.Pages {
		for range 30 {
			p[[]int{r.Intn(30), size - 1 - r.Intn(30)}[r.Intn(2)]] = byte(r.Intn(256))
		}
	}
	for at, g := range m.Globals {
		if g.Mutable {
			s.Globals[at] = drawnValue(r, g.Letter)
		}
	}
	s.Replies, s.Used = r.Intn(3), r.Int63()>>(1+r.Intn(62))
	if r.Intn(20) == 0 {
		s.Used = mostUsed - int64(r.Intn(4))
	}
	tables, _, _, _ := validate.Module(m)
	most := 1 + r.Intn(4)
	if r.Intn(4) == 0 {
		most = most64 - r.Intn(2)
	}
	s.Frames = drawnFrames(r, m, tables, most)
	return s
}

// drawnFrames: so many frames, or as many as there are calls for.
func drawnFrames(r *rand.Rand, m api.Module, tables []api.Table, most int) []api.Frame {
	var frames []api.Frame
	function := r.Intn(len(m.Functions))
	for {
		f := m.Functions[function]
		var calls []int
		for pc, x := range f.Code {
			if wordOf[x.Op] == "call" {
				calls = append(calls, pc)
			}
		}
		locals := drawnValues(r, m.Types[f.Type].Params+f.Locals)
		if len(calls) == 0 || len(frames) == most-1 {
			pc := r.Intn(len(f.Code))
			if len(calls) > 0 && r.Intn(2) == 0 {
				pc = calls[r.Intn(len(calls))]
			}
			return append(frames, api.Frame{Function: function, Pc: pc, Locals: locals, Stack: drawnValues(r, tables[function].Shapes[pc])})
		}
		pc := calls[r.Intn(len(calls))]
		callee := int(f.Code[pc].A)
		shape := tables[function].Shapes[pc]
		shape = shape[:len(shape)-len(m.Types[m.Functions[callee].Type].Params)]
		frames = append(frames, api.Frame{Function: function, Pc: pc, Locals: locals, Stack: drawnValues(r, shape)})
		function = callee
	}
}

// damaged: one thing of a module, or of a state, is another one.
func damaged(r *rand.Rand, m *api.Module, s *api.State) {
	f := &m.Functions[r.Intn(len(m.Functions))]
	x := &f.Code[r.Intn(len(f.Code))]
	k := &s.Frames[r.Intn(len(s.Frames))]
	[]func(){
		func() { x.Op = byte(r.Intn(256)) },
		func() { x.A = []int64{-1, 0, 1, 2, 1 << 40}[r.Intn(5)] },
		func() { x.Op, x.A, x.L = byte(r.Intn(13)), 0, nil },
		func() { x.L = append(x.L, r.Intn(4)) },
		func() { f.Locals += "w" },
		func() { f.Type = r.Intn(len(m.Types)+2) - 1 },
		func() { f.Code = f.Code[:len(f.Code)-1] },
		func() { m.Most = r.Intn(70) - 3 },
		func() { k.Pc += r.Intn(5) - 2 },
		func() { k.Function = r.Intn(5) - 1 },
		func() { k.Stack = append(k.Stack, drawnValue(r, 'l')) },
		func() { k.Locals = append(k.Locals, 0) },
		func() { s.End = int8(r.Intn(5)) },
		func() { s.Trap = int8(r.Intn(9) - 1) },
		func() { s.Used = int64(r.Intn(3)) - 2 },
		func() { s.Replies = r.Intn(3) - 2 },
		func() { s.Pages = blank(r.Intn(5)) },
		func() { s.Globals = append(s.Globals, 0) },
		func() { s.Frames = append(s.Frames, api.Frame{}) },
		func() { s.Frames = nil },
		func() { s.Frames, s.End, s.Results = nil, halted, make([]uint64, r.Intn(10)) },
		func() { s.Frames, s.End, s.Trap = nil, trapped, int8(r.Intn(8)) },
	}[r.Intn(22)]()
}

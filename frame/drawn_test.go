package frame_test

import (
	"math"
	"math/rand"
	"slices"
	"strings"

	"flagon/api"
)

func drawnLetters(r *rand.Rand, most int) string {
	out := ""
	for range r.Intn(most + 1) {
		out += string("wl"[r.Intn(2)])
	}
	return out
}

// drawnValue: one of that letter, often at an end of its range.
func drawnValue(r *rand.Rand, letter byte) uint64 {
	v := []uint64{0, 1, math.MaxUint64, high, high - 1, r.Uint64()}[r.Intn(6)]
	if letter == 'w' {
		v %= high
	}
	return v
}

func drawnValues(r *rand.Rand, letters string) []uint64 {
	list := make([]uint64, len(letters))
	for at := range list {
		list[at] = drawnValue(r, letters[at])
	}
	return list
}

// drawnKit is a module that may run, drawn with its shapes.
func drawnKit(r *rand.Rand) kit {
	k := kit{m: api.Module{Types: []api.Sig{{}}, First: r.Intn(3)}}
	k.m.Most = k.m.First + r.Intn(3)
	for range r.Intn(6) {
		x := api.Sig{Params: drawnLetters(r, 3), Results: drawnLetters(r, 3)}
		if !slices.Contains(k.m.Types, x) {
			k.m.Types = append(k.m.Types, x)
		}
	}
	for range r.Intn(5) {
		letter := "wl"[r.Intn(2)]
		k.m.Globals = append(k.m.Globals, api.Global{Letter: letter, Mutable: r.Intn(2) == 0, Value: drawnValue(r, letter)})
	}
	for range 1 + r.Intn(4) {
		f := api.Function{Type: r.Intn(len(k.m.Types)), Locals: drawnLetters(r, 4)}
		k.m.Functions = append(k.m.Functions, f)
		k.locals = append(k.locals, k.m.Types[f.Type].Params+f.Locals)
	}
	for at := range k.m.Functions {
		k.drawCode(r, at)
	}
	return k
}

// drawCode draws a function's code: constants, drops, calls and blocks that hold a nop.
func (k *kit) drawCode(r *rand.Rand, function int) {
	f := &k.m.Functions[function]
	var shapes []string
	shape := ""
	put := func(op byte, a int64, behind string) {
		f.Code, shapes = append(f.Code, api.Ins{Op: op, A: a}), append(shapes, shape)
		shape = behind
	}
	push := func(letters string) {
		for at := range letters {
			put(0x18+byte(strings.IndexByte("wl", letters[at])), int64(r.Intn(9)), shape+letters[at:at+1])
		}
	}
	for range r.Intn(25) {
		switch n := r.Intn(len(k.m.Functions)); r.Intn(6) {
		case 0:
			push(drawnLetters(r, 2))
		case 1:
			if shape != "" {
				put(0x10, 0, shape[:len(shape)-1])
			}
		case 2:
			put(0x02, 0, shape)
			put(0x01, 0, shape)
			put(0x06, 0, shape)
		default:
			x := k.m.Types[k.m.Functions[n].Type]
			if !strings.HasSuffix(shape, x.Params) || r.Intn(3) == 0 {
				push(x.Params)
			}
			put(opCall, int64(n), strings.TrimSuffix(shape, x.Params)+x.Results)
		}
	}
	for shape != "" {
		put(0x10, 0, shape[:len(shape)-1])
	}
	results := k.m.Types[f.Type].Results
	push(results)
	put(0x06, 0, "")
	k.shapes = append(k.shapes, shapes)
}

// drawnState is a state of the kit's module that may be.
func (k kit) drawnState(r *rand.Rand) api.State {
	s := api.State{End: int8(1 + r.Intn(3)), Pages: blank(k.m.First + r.Intn(k.m.Most-k.m.First+1)), Replies: r.Int() >> r.Intn(63), Used: r.Int63() >> (1 + r.Intn(62))}
	for _, p := range s.Pages {
		p[r.Intn(size)] = byte(r.Intn(256))
	}
	for _, g := range k.m.Globals {
		v := g.Value
		if g.Mutable {
			v = drawnValue(r, g.Letter)
		}
		s.Globals = append(s.Globals, v)
	}
	switch s.End {
	case halted:
		s.Results = drawnValues(r, drawnLetters(r, 8))
	case trapped:
		s.Trap = int8(1 + r.Intn(6))
	default:
		s.Frames = k.drawnFrames(r)
	}
	return s
}

// drawnFrames: as many as are drawn, or as calls are found.
func (k kit) drawnFrames(r *rand.Rand) []api.Frame {
	most := 1 + r.Intn(5)
	if r.Intn(8) == 0 {
		most = most64
	}
	var frames []api.Frame
	function := r.Intn(len(k.shapes))
	for {
		pc, found := k.drawnCall(r, function)
		if !found || len(frames) == most-1 {
			pc = r.Intn(len(k.shapes[function]))
			return append(frames, k.drawnFrame(r, function, pc, k.shapes[function][pc]))
		}
		callee := int(k.m.Functions[function].Code[pc].A)
		taken := len(k.m.Types[k.m.Functions[callee].Type].Params)
		shape := k.shapes[function][pc]
		frames = append(frames, k.drawnFrame(r, function, pc, shape[:len(shape)-taken]))
		function = callee
	}
}

// drawnCall: the pc of one of a function's calls, if it has one.
func (k kit) drawnCall(r *rand.Rand, function int) (int, bool) {
	var calls []int
	for pc, x := range k.m.Functions[function].Code {
		if x.Op == opCall {
			calls = append(calls, pc)
		}
	}
	if len(calls) == 0 {
		return 0, false
	}
	return calls[r.Intn(len(calls))], true
}

func (k kit) drawnFrame(r *rand.Rand, function, pc int, shape string) api.Frame {
	return api.Frame{Function: function, Pc: pc, Locals: drawnValues(r, k.locals[function]), Stack: drawnValues(r, shape)}
}

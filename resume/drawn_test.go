package resume_test

import (
	"bytes"
	"math/rand"
	"slices"
	"testing"

	"flagon/api"
	"flagon/validate"
)

// programs: a loop, a call of itself, memory that grows, hosts, a table of labels, frames without end, a trap, ways out of nested openers with values below.
func programs(t *testing.T) []api.Module {
	t.Helper()
	list := []api.Module{five(t), rich(t)}
	for _, source := range []string{
		"type - -> -\ntype w -> w\nmemory 0 0\nfunc 1 -\nloop 0\nget 0\nw.const 1\nw.sub\ntee 0\nbrif 0\nend\nw.const 7\nend\n",
		"type l -> l\ntype - -> l\nmemory 0 0\nfunc 0 -\nget 0\nl.eqz\nif 1\nl.const 1\nelse\nget 0\nget 0\nl.const 1\nl.sub\ncall 0\nl.mul\nend\nend\n",
		"type w -> w\nglobal l var -1\nglobal w const 7\nmemory 1 3\nfunc 0 -\nget 0\nw.const -2\nw.store 4\nw.const 1\ngrow\ndrop\nget 0\ngget 0\nl.store 4090\nget 0\nw.load8s 4093\nl.const 3\ngset 0\nend\ndata 16 07ff\n",
		"type w -> w\ntype - -> lw\nextern 0\nextern 1\nmemory 0 0\nfunc 0 -\nget 0\nhost 0\nhost 0\nhost 1\nhost 0\nset 0\ndrop\nget 0\nw.add\nend\n",
		"type w -> w\ntype - -> w\nmemory 0 0\nfunc 0 -\nblock 1\nblock 1\nblock 1\nw.const 9\nget 0\nbrtable 0 1 2 3\nend\nw.const 1\nw.add\nend\nw.const 2\nw.mul\nend\nend\n",
		"type ww -> w\nmemory 0 0\nfunc 0 lw\nget 0\nget 1\nget 0\nget 1\ncall 0\ndrop\ndrop\nend\n",
		"type ll -> l\nmemory 0 0\nfunc 0 -\nget 0\nget 1\nl.divs\nget 1\nl.rotl\nend\n",
		"type - -> -\ntype w -> w\ntype w -> ww\nmemory 0 64\nfunc 1 w\nw.const 3\nget 0\nloop 2\ntee 1\nget 1\nw.const 1\nw.sub\nget 1\nbrif 0\nend\ndrop\ndrop\nend\nfunc 0 -\nw.const 5\ncall 0\ndrop\ncall 1\nend\n",
	} {
		list = append(list, parsed(t, "flagon\n"+source))
	}
	for _, m := range list {
		if _, e, function, pc := validate.Module(m); e != api.OK {
			t.Fatalf("%+v may not run: %d at %d, %d", m, e, function, pc)
		}
	}
	return list
}

// drawnValue: one of that letter, often small, near the end of a page, or at an end of its range.
func drawnValue(r *rand.Rand, letter byte) uint64 {
	v := []uint64{0, 1, uint64(r.Intn(6)), uint64(size - 10 + r.Intn(20)), high, high - 1, 1 << 31, 1 << 63, wide, r.Uint64()}[r.Intn(10)]
	if letter == 'w' {
		v %= high
	}
	return v
}

func drawnValues(r *rand.Rand, letters string) []uint64 {
	list := make([]uint64, len(letters))
	for at := range list {
		list[at] = drawnValue(r, letters[at])
	}
	return list
}

// drawnScript: replies, some of which fit.
func drawnScript(r *rand.Rand) []api.Reply {
	var script []api.Reply
	for range r.Intn(8) {
		script = append(script, api.Reply{Results: drawnValues(r, []string{"w", "w", "lw", ""}[r.Intn(4)]), Trap: r.Intn(8) == 0})
	}
	return script
}

// drawnState is a state of the module that may be, though perhaps none comes to it: its frames stand anywhere, with any values.
func drawnState(r *rand.Rand, m api.Module) api.State {
	s := api.State{End: suspended, Pages: blank(m.First + r.Intn(min(4, m.Most-m.First+1))), Replies: r.Intn(3), Used: r.Int63() >> (1 + r.Intn(62))}
	for _, p := range s.Pages {
		for range r.Intn(20) {
			p[[]int{r.Intn(30), size - 1 - r.Intn(30)}[r.Intn(2)]] = byte(r.Intn(256))
		}
	}
	for _, g := range m.Globals {
		v := g.Value
		if g.Mutable {
			v = drawnValue(r, g.Letter)
		}
		s.Globals = append(s.Globals, v)
	}
	switch r.Intn(12) {
	case 0:
		s.End, s.Results = halted, drawnValues(r, "wllwlwll"[:r.Intn(9)])
		return s
	case 1:
		s.End, s.Trap = trapped, int8(1+r.Intn(6))
		return s
	case 2:
		s.Used, s.Replies = mostUsed-int64(r.Intn(4)), mostReplies-r.Intn(4)
	}
	most := []int{1, 2, 1 + r.Intn(5), most64 - r.Intn(2)}[r.Intn(4)]
	s.Frames = drawnFrames(r, m, most)
	return s
}

// drawnFrames: so many frames, or as many as there are calls for.
func drawnFrames(r *rand.Rand, m api.Module, most int) []api.Frame {
	tables, _, _, _ := validate.Module(m)
	var frames []api.Frame
	function := r.Intn(len(m.Functions))
	for {
		f := m.Functions[function]
		var calls []int
		for pc, x := range f.Code {
			if x.Op == 0x0b {
				calls = append(calls, pc)
			}
		}
		locals := drawnValues(r, m.Types[f.Type].Params+f.Locals)
		if len(calls) == 0 || len(frames) == most-1 {
			pc := r.Intn(len(f.Code))
			return append(frames, api.Frame{Function: function, Pc: pc, Locals: locals, Stack: drawnValues(r, tables[function].Shapes[pc])})
		}
		pc := calls[r.Intn(len(calls))]
		callee := int(f.Code[pc].A)
		shape := tables[function].Shapes[pc]
		shape = shape[:len(shape)-len(m.Types[m.Functions[callee].Type].Params)]
		frames = append(frames, api.Frame{Function: function, Pc: pc, Locals: locals, Stack: drawnValues(r, shape)})
		function = callee
	}
}

// shuffled is s with some of it drawn anew, taken from other places, or put out of its range.
func shuffled(r *rand.Rand, m api.Module, s api.State) api.State {
	s = cloned(s)
	if len(s.Frames) > 0 {
		f := &s.Frames[r.Intn(len(s.Frames))]
		other := cloned(s).Frames[r.Intn(len(s.Frames))]
		[]func(){
			func() { f.Pc = r.Intn(24) - 1 },
			func() { f.Pc = other.Pc },
			func() { f.Function = r.Intn(5) - 1 },
			func() { *f = other },
			func() { f.Stack = other.Stack },
			func() { f.Locals = other.Locals },
			func() { f.Stack = drawnValues(r, "wlwl"[:r.Intn(5)]) },
			func() { f.Locals = drawnValues(r, "llll"[:r.Intn(5)]) },
			func() { s.Frames = s.Frames[:r.Intn(len(s.Frames))+1] },
			func() { s.Frames = s.Frames[r.Intn(len(s.Frames)):] },
		}[r.Intn(10)]()
	}
	switch r.Intn(16) {
	case 0:
		s.End = int8(r.Intn(5))
	case 1:
		s.Frames = drawnFrames(r, m, 3)
	case 2:
		s.Trap = int8(r.Intn(8))
	case 3:
		s.Results = append(s.Results, 1)
	case 4:
		s.Used = r.Int63() - r.Int63()
	case 5:
		s.Pages = blank(r.Intn(6))
	case 6:
		s.Globals = drawnValues(r, "wllw"[:r.Intn(5)])
	case 7:
		s.Replies = r.Intn(3) - 1
	}
	return s
}

// mangled: bytes with some of them turned, taken out, put in, or doubled, mostly outside of pages.
func mangled(r *rand.Rand, b []byte) []byte {
	b = bytes.Clone(b)
	for range 1 + r.Intn(2) {
		at := len(head) + r.Intn(len(b)-len(head)+1)
		if r.Intn(2) == 0 {
			at = min(at, len(head)+r.Intn(30))
		}
		to := min(len(b), at+r.Intn(3))
		switch r.Intn(8) {
		case 0:
			b = slices.Delete(b, at, to)
		case 1:
			b = slices.Insert(b, at, []byte{0, 1, 2, 128, byte(r.Intn(256))}[r.Intn(5)])
		case 2:
			b = slices.Insert(b, at, bytes.Clone(b[at:to])...)
		default:
			for k := at; k < to; k++ {
				b[k] = []byte{0, 1, b[k] + 1, b[k] - 1, b[k] ^ 128, byte(r.Intn(256))}[r.Intn(6)]
			}
		}
	}
	return b
}

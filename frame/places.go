package frame

import (
	"flagon/api"
	"flagon/types"
)

const opCall = 0x0b

// asked: what is asked of a state of a module that may run, in the order of the places, from 1 on.
func asked(m api.Module, tables []api.Table, s api.State) []func() bool {
	suspended, halted, trapped := s.End == api.Suspended, s.End == api.Halted, s.End == api.Trapped
	list := []func() bool{
		func() bool { return suspended || halted || trapped },
		func() bool { return suspended == (len(s.Frames) > 0) && len(s.Frames) <= api.MaxFrames },
		func() bool { return len(s.Results) == 0 || halted && len(s.Results) <= api.MaxArity },
		func() bool { return trapped == (s.Trap != api.TrapNone) && isTrap(s.Trap) },
		func() bool { return s.Used >= 0 && s.Used <= api.MaxUsed },
		func() bool { return s.Replies >= 0 },
		func() bool { return hold(m.Globals, s.Globals) },
		func() bool { return whole(s.Pages, m.First, m.Most) },
	}
	for k := range min(len(s.Frames), api.MaxFrames) { // where there are more, place 2 refuses them all
		list = append(list, func() bool { return stands(m, tables, s.Frames[k:]) })
	}
	return list
}

// isTrap: is it a trap, or none?
func isTrap(trap int8) bool {
	return trap >= api.TrapNone && trap <= api.TrapHost
}

// hold: may the globals have these values?
func hold(globals []api.Global, values []uint64) bool {
	if len(values) != len(globals) {
		return false
	}
	for at, g := range globals {
		if !types.Fits(values[at], g.Letter) || !g.Mutable && values[at] != g.Value {
			return false
		}
	}
	return true
}

// whole: are there from first to most pages, none of them longer or shorter than one?
func whole(pages [][]byte, first, most int) bool {
	if len(pages) < first || len(pages) > most {
		return false
	}
	for _, page := range pages {
		if len(page) != api.Page {
			return false
		}
	}
	return true
}

// stands: does the first of these frames fit where it stands, the others being those behind it?
func stands(m api.Module, tables []api.Table, frames []api.Frame) bool {
	f := frames[0]
	if !inside(f.Function, len(m.Functions)) {
		return false
	}
	own := m.Functions[f.Function]
	if !inside(f.Pc, len(own.Code)) {
		return false
	}
	shape := tables[f.Function].Shapes[f.Pc]
	if len(frames) > 1 {
		x := own.Code[f.Pc]
		if x.Op != opCall || x.A != int64(frames[1].Function) {
			return false
		}
		shape = waiting(m, shape, x.A)
	}
	return types.All(f.Locals, m.Types[own.Type].Params+own.Locals) && types.All(f.Stack, shape)
}

// waiting: the shape of a frame that waits for that function's results: what lay on top ahead of the call was taken off as the callee's parameters.
func waiting(m api.Module, ahead string, callee int64) string {
	taken := m.Types[m.Functions[callee].Type].Params
	return ahead[:len(ahead)-len(taken)]
}

// inside: is there something of that number, where there are so many?
func inside(number, count int) bool {
	return number >= 0 && number < count
}

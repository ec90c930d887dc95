package walk

import (
	"flagon/api"
	"flagon/control"
)

const body = -1 // how control.Map tells the body where an opener's pc could stand

// last: the frame that runs.
func (w *Walk) last() *api.Frame {
	return &w.state.Frames[len(w.state.Frames)-1]
}

// branch goes on where the label of that number leads, from the innermost on.
func (w *Walk) branch(f *api.Frame, number int64) {
	opener := w.label(f, number)
	if opener == body {
		w.leave(f)
		return
	}
	x := w.module.Functions[f.Function].Code[opener]
	table, own := w.tables[f.Function], w.module.Types[x.A]
	keep, to := len(own.Results), table.Ends[opener]+1
	if x.Op == opLoop { // its label leads to where it is entered
		keep, to = len(own.Params), opener+1
	}
	f.Stack = append(f.Stack[:table.Floors[opener]], f.Stack[len(f.Stack)-keep:]...)
	f.Pc = to
}

// label: the opener that lies so many labels out, or the body.
func (w *Walk) label(f *api.Frame, number int64) int {
	if w.owners[f.Function] == nil {
		_, _, w.owners[f.Function], _, _ = control.Map(w.module.Functions[f.Function].Code)
	}
	owners := w.owners[f.Function]
	opener := owners[f.Pc]
	for ; number > 0 && opener != body; number-- {
		opener = owners[opener]
	}
	return opener
}

// leave: the frame that runs is gone, and the one ahead goes on with its results; without one ahead they are the run's.
func (w *Walk) leave(f *api.Frame) {
	results := take(f, len(w.sig(f.Function).Results))
	w.state.Frames = w.state.Frames[:len(w.state.Frames)-1]
	if len(w.state.Frames) == 0 {
		w.state.End, w.state.Results, w.state.Frames = api.Halted, results, nil
		return
	}
	ahead := w.last()
	push(ahead, results...)
	ahead.Pc++
}

// call: a frame of that function runs from now on, and f waits at its call.
func (w *Walk) call(f *api.Frame, function int) int8 {
	if len(w.state.Frames) == api.MaxFrames {
		return api.TrapFrames
	}
	locals := take(f, len(w.sig(function).Params))
	locals = append(locals, make([]uint64, len(w.module.Functions[function].Locals))...)
	w.state.Frames = append(w.state.Frames, api.Frame{Function: function, Locals: locals})
	return api.TrapNone
}

// ask: what the host of that number is told counts for nothing, for the script alone says what it replies.
func (w *Walk) ask(f *api.Frame, number int) int8 {
	own := w.module.Types[w.module.Hosts[number]]
	take(f, len(own.Params))
	results, ok := w.host.Call(own.Results)
	if !ok {
		return api.TrapHost
	}
	push(f, results...)
	f.Pc++
	return api.TrapNone
}

// sig: the type of that function.
func (w *Walk) sig(function int) api.Sig {
	return w.module.Types[w.module.Functions[function].Type]
}

// push puts values on the top, the last one uppermost.
func push(f *api.Frame, values ...uint64) {
	f.Stack = append(f.Stack, values...)
}

// pop takes the top value off.
func pop(f *api.Frame) uint64 {
	at := len(f.Stack) - 1
	v := f.Stack[at]
	f.Stack = f.Stack[:at]
	return v
}

// take takes so many values off the top, and answers them in a list of their own: the stack's memory is written over by what is pushed next.
func take(f *api.Frame, count int) []uint64 {
	at := len(f.Stack) - count
	values := append([]uint64(nil), f.Stack[at:]...)
	f.Stack = f.Stack[:at]
	return values
}

package walk

import (
	"flagon/api"
	"flagon/control"
	"flagon/frame"
	"flagon/host"
	"flagon/mem"
	"flagon/validate"
)

const body = -1 // how control.Map tells the body where an opener's pc could stand

// run is a state that goes on in place. The state's pages are the memory's meanwhile, its replies the host's.
type run struct {
	module api.Module
	tables []api.Table
	owners [][]int // control.Map's, of each function that has branched
	memory *mem.Memory
	host   *host.Host
	state  api.State
}

// begun: a run that goes on from s, if the module may run and s may be.
func begun(m api.Module, script []api.Reply, s api.State) (*run, api.Errno) {
	tables, e, _, _ := validate.Module(m)
	if e != api.OK {
		return nil, e
	}
	if e, _ := frame.Check(m, s); e != api.OK {
		return nil, e
	}
	r := &run{module: m, tables: tables, owners: make([][]int, len(m.Functions)), host: host.New(script, s.Replies)}
	r.memory, _ = mem.From(s.Pages, m.Most) // a state that may be has pages that a memory may have
	s.Pages = nil
	r.state = frame.Copy(s)
	return r, api.OK
}

// ended: has it halted or trapped?
func (r *run) ended() bool {
	return r.state.End != api.Suspended
}

// told: the state in which it stands. It is handed out, so the run goes on no more.
func (r *run) told() api.State {
	r.state.Pages, r.state.Replies = r.memory.Pages(), r.host.Taken()
	return r.state
}

// place: that of the instruction which the next step executes.
func (r *run) place() Place {
	f := r.last()
	return Place{Depth: len(r.state.Frames) - 1, Function: f.Function, Pc: f.Pc}
}

// step executes the instruction at the last frame's pc.
func (r *run) step() {
	r.state.Used = min(r.state.Used+1, api.MaxUsed)
	f := r.last()
	if trap := r.do(f, r.module.Functions[f.Function].Code[f.Pc]); trap != api.TrapNone {
		r.state.End, r.state.Trap, r.state.Frames = api.Trapped, trap, nil
	}
}

// last: the frame that runs.
func (r *run) last() *api.Frame {
	return &r.state.Frames[len(r.state.Frames)-1]
}

// branch goes on where the label of that number leads, from the innermost on.
func (r *run) branch(f *api.Frame, number int64) {
	opener := r.label(f, number)
	if opener == body {
		r.leave(f)
		return
	}
	x := r.module.Functions[f.Function].Code[opener]
	table, own := r.tables[f.Function], r.module.Types[x.A]
	keep, to := len(own.Results), table.Ends[opener]+1
	if x.Op == opLoop { // its label leads to where it is entered
		keep, to = len(own.Params), opener+1
	}
	f.Stack = append(f.Stack[:table.Floors[opener]], f.Stack[len(f.Stack)-keep:]...)
	f.Pc = to
}

// label: the opener that lies so many labels out, or the body.
func (r *run) label(f *api.Frame, number int64) int {
	if r.owners[f.Function] == nil {
		_, _, r.owners[f.Function], _, _ = control.Map(r.module.Functions[f.Function].Code)
	}
	owners := r.owners[f.Function]
	opener := owners[f.Pc]
	for ; number > 0 && opener != body; number-- {
		opener = owners[opener]
	}
	return opener
}

// leave: the frame that runs is gone, and the one ahead goes on with its results; without one ahead they are the run's.
func (r *run) leave(f *api.Frame) {
	results := take(f, len(r.sig(f.Function).Results))
	r.state.Frames = r.state.Frames[:len(r.state.Frames)-1]
	if len(r.state.Frames) == 0 {
		r.state.End, r.state.Results, r.state.Frames = api.Halted, results, nil
		return
	}
	ahead := r.last()
	push(ahead, results...)
	ahead.Pc++
}

// call: a frame of that function runs from now on, and f waits at its call.
func (r *run) call(f *api.Frame, function int) int8 {
	if len(r.state.Frames) == api.MaxFrames {
		return api.TrapFrames
	}
	locals := take(f, len(r.sig(function).Params))
	locals = append(locals, make([]uint64, len(r.module.Functions[function].Locals))...)
	r.state.Frames = append(r.state.Frames, api.Frame{Function: function, Locals: locals})
	return api.TrapNone
}

// ask: what the host of that number is told counts for nothing, for the script alone says what it replies.
func (r *run) ask(f *api.Frame, number int) int8 {
	own := r.module.Types[r.module.Hosts[number]]
	take(f, len(own.Params))
	results, ok := r.host.Call(own.Results)
	if !ok {
		return api.TrapHost
	}
	push(f, results...)
	f.Pc++
	return api.TrapNone
}

// sig: the type of that function.
func (r *run) sig(function int) api.Sig {
	return r.module.Types[r.module.Functions[function].Type]
}

// push puts values on the top, the last one uppermost.
func push(f *api.Frame, values ...uint64) {
	f.Stack = append(f.Stack, values...)
}

// pop takes the top value off.
func pop(f *api.Frame) uint64 {
	at := len(f.Stack) - 1
	v := f.Stack[at]
	f.Stack = f.Stack[:at]
	return v
}

// take takes so many values off the top, and answers them in a list of their own: the stack's memory is written over by what is pushed next.
func take(f *api.Frame, count int) []uint64 {
	at := len(f.Stack) - count
	values := append([]uint64(nil), f.Stack[at:]...)
	f.Stack = f.Stack[:at]
	return values
}

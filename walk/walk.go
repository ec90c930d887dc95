// Package walk makes the steps of a run, and lets be seen where each one is made and what the memory holds: layer 16 tells the states that they come to, layers 26 and 27 ask for the places, too, layer 28 for both. See shared/doc/16-step.md, shared/doc/26-trace.md, shared/doc/27-profile.md and shared/doc/28-debug.md.
package walk

import (
	"flagon/api"
	"flagon/frame"
	"flagon/host"
	"flagon/mem"
	"flagon/validate"
)

// Place: of a step: how many frames there are but the last one, and where that one stands.
type Place struct {
	Depth, Function, Pc int
}

// Walk is a state that goes on in place, step by step. The state's pages are the memory's meanwhile, its replies the host's. The module is kept as it was handed in: as long as the walk goes on nobody may change it.
type Walk struct {
	module api.Module
	tables []api.Table
	owners [][]int // control.Map's, of each function that has branched
	memory *mem.Memory
	host   *host.Host
	state  api.State
}

// Begin: a walk that goes on from s, if the module may run and s may be.
func Begin(m api.Module, script []api.Reply, s api.State) (*Walk, api.Errno) {
	tables, e, _, _ := validate.Module(m)
	if e != api.OK {
		return nil, e
	}
	if e, _ := frame.Check(m, s); e != api.OK {
		return nil, e
	}
	w := &Walk{module: m, tables: tables, owners: make([][]int, len(m.Functions)), host: host.New(script, s.Replies)}
	w.memory, _ = mem.From(s.Pages, m.Most) // a state that may be has pages that a memory may have
	s.Pages = nil
	w.state = frame.Copy(s)
	return w, api.OK
}

// Run: the state behind so many steps, or behind fewer, if the run ends, or if see says false: it is handed each step's place ahead of the step, which then is not made. (A see that is nil is not asked.)
func Run(m api.Module, script []api.Reply, s api.State, steps int64, see func(p Place) bool) (api.State, api.Errno) {
	w, e := Begin(m, script, s)
	if e != api.OK {
		return api.State{}, e
	}
	for ; steps > 0 && !w.Ended() && (see == nil || see(w.Place())); steps-- {
		w.Step()
	}
	return w.State(), api.OK
}

// Ended: has it halted or trapped? What Begin did not make goes on no more, either.
func (w *Walk) Ended() bool {
	return w == nil || w.state.End != api.Suspended
}

// Place: that of the instruction which the next step executes, if there is one.
func (w *Walk) Place() Place {
	if w.Ended() {
		return Place{}
	}
	f := w.last()
	return Place{Depth: len(w.state.Frames) - 1, Function: f.Function, Pc: f.Pc}
}

// Step executes the instruction at the last frame's pc, if the run has not ended.
func (w *Walk) Step() {
	if w.Ended() {
		return
	}
	w.state.Used = min(w.state.Used+1, api.MaxUsed)
	f := w.last()
	if trap := w.do(f, w.module.Functions[f.Function].Code[f.Pc]); trap != api.TrapNone {
		w.state.End, w.state.Trap, w.state.Frames = api.Trapped, trap, nil
	}
}

// Byte: the one that the memory holds there; beyond the memory 0.
func (w *Walk) Byte(at uint64) byte {
	if w == nil {
		return 0
	}
	v, _ := w.memory.Load(at, 1)
	return byte(v)
}

// State: that in which it stands, in memory of its own: the walk may go on.
func (w *Walk) State() api.State {
	if w == nil {
		return api.State{}
	}
	s := frame.Copy(w.state)
	s.Pages, s.Replies = w.memory.Pages(), w.host.Taken()
	return s
}

package ahead

import (
	"flagon/api"
	"flagon/frame"
	"flagon/host"
	"flagon/lower"
	"flagon/mem"
)

// engine is a state that goes on in place. The state's pages are the memory's meanwhile, its replies the host's, and what it has used is added at the end.
type engine struct {
	purse
	*api.Frame // the one that runs

	lines  []lower.Line // those of its function
	code   [][]lower.Line
	module api.Module
	memory *mem.Memory
	host   *host.Host
	state  api.State
}

// begun: an engine that goes on from a suspended state that may be.
func begun(m api.Module, script []api.Reply, s api.State, fuel int64) *engine {
	n := &engine{purse: purse{left: fuel}, module: m, host: host.New(script, s.Replies)}
	n.code, _ = lower.Module(m)             // a module of which a state may be may run
	n.memory, _ = mem.From(s.Pages, m.Most) // and the state's pages are such as a memory may have
	s.Pages = nil
	n.state = frame.Copy(s)
	n.enter()
	return n
}

// enter: the last frame is the one that runs from now on. Nothing can be put behind its lines.
func (n *engine) enter() {
	n.Frame = &n.state.Frames[len(n.state.Frames)-1]
	own := n.code[n.Function]
	n.lines = own[:len(own):len(own)]
}

// run goes from segment to segment, until the run ends or there is no fuel for its next instruction.
func (n *engine) run() {
	do := deeds()
run:
	for {
		rest := n.lines[n.Pc].Left
		whole := n.begin(rest)
		for ; rest > 0; rest-- {
			if !whole && !n.pay(1) {
				break run
			}
			x := &n.lines[n.Pc]
			n.Pc++ // most go on there; those that do not say where
			do[x.Op](n, x)
			if !n.ended() {
				continue
			}
			if whole { // the others of the segment are not executed
				n.back(rest - 1)
			}
			break run
		}
	}
}

// ended: has it halted or trapped?
func (n *engine) ended() bool {
	return n.state.End != api.Suspended
}

// told: the state in which it stands. It is handed out, so the engine goes on no more.
func (n *engine) told() api.State {
	n.state.Pages, n.state.Replies = n.memory.Pages(), n.host.Taken()
	n.state.Used += min(n.spent(), api.MaxUsed-n.state.Used)
	return n.state
}

// fail: that trap ends the run.
func (n *engine) fail(trap int8) {
	n.state.End, n.state.Trap, n.state.Frames = api.Trapped, trap, nil
}

// follow goes that way.
func (n *engine) follow(w lower.Way) {
	if w.To < 0 {
		n.leave(w.Keep)
		return
	}
	if w.Floor >= 0 {
		n.Stack = append(n.Stack[:w.Floor], n.Stack[len(n.Stack)-w.Keep:]...)
	}
	n.Pc = w.To
}

// leave: the frame that runs is gone, and the one ahead goes on behind its call with so many results; without one ahead they are the run's.
func (n *engine) leave(count int) {
	results := n.take(count)
	n.state.Frames = n.state.Frames[:len(n.state.Frames)-1]
	if len(n.state.Frames) == 0 {
		n.state.End, n.state.Results, n.state.Frames = api.Halted, results, nil
		return
	}
	n.enter()
	n.push(results...)
	n.Pc++
}

// push puts values on the top, the last one uppermost.
func (n *engine) push(values ...uint64) {
	n.Stack = append(n.Stack, values...)
}

// pop takes the top value off.
func (n *engine) pop() uint64 {
	at := len(n.Stack) - 1
	v := n.Stack[at]
	n.Stack = n.Stack[:at]
	return v
}

// take takes so many values off the top, and answers them in a list of their own: the stack's memory is written over by what is pushed next.
func (n *engine) take(count int) []uint64 {
	at := len(n.Stack) - count
	values := append([]uint64(nil), n.Stack[at:]...)
	n.Stack = n.Stack[:at]
	return values
}

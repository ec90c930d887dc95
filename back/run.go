package back

import (
	"flagon/api"
	"flagon/fast"
	"flagon/own"
	"flagon/snap"
)

// mark: a step, and the state there, as bytes: no one who is handed the state can change them.
type mark struct {
	step  int64
	bytes []byte
}

// run is what a tape runs. What its states have used is counted from the tape's beginning on, and so is the step of each: counted on from the first state's, it might come to its most, and tell the step no more.
type run struct {
	module api.Module
	script []api.Reply
	used   int64 // the first state's
}

// begun: a run of its own that begins at s, and the mark of that.
func begun(m api.Module, script []api.Reply, s api.State) (run, mark, api.Errno) {
	r := run{module: own.Module(m), script: own.Script(script), used: s.Used}
	s.Used = 0
	first, e := marked(s)
	return r, first, e
}

// on: the state behind as many steps as fuel says, or behind fewer, if the run ends; and its mark.
func (r *run) on(s api.State, fuel int64) (api.State, mark, api.Errno) {
	s, e := fast.Run(r.module, r.within(s.Replies, fuel), s, fuel)
	if e != api.OK {
		return api.State{}, mark{}, e
	}
	x, e := marked(s)
	return s, x, e
}

// within: the script as far as so many steps can take replies, one each: an engine copies all that it is handed, and a long script would be copied at every stop.
func (r *run) within(taken int, steps int64) []api.Reply {
	gone := min(taken, len(r.script))
	more := min(int64(len(r.script)-gone), steps)
	return r.script[:gone+int(more)]
}

// told: the state with what it has used in all.
func (r *run) told(s api.State) api.State {
	s.Used = r.used + min(s.Used, api.MaxUsed-r.used)
	return s
}

func marked(s api.State) (mark, api.Errno) {
	b, e := snap.Write(s)
	return mark{step: s.Used, bytes: b}, e
}

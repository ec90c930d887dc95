package meter

import (
	"flagon/ahead"
	"flagon/api"
	"flagon/slow"
)

// runner is an engine that counts what it does.
type runner interface {
	run(m api.Module, script []api.Reply, s api.State, fuel int64) (api.State, api.Errno)
	counts() Counts
}

// chosen: a new runner of that engine; nil, if there is no such engine.
func chosen(engine int8) runner {
	switch engine {
	case Slow:
		return &single{}
	case Fast:
		return &whole{}
	}
	return nil
}

// tally is what is counted of a run.
type tally struct {
	told Counts
}

// ask: the fuel that is left was compared so often.
func (t *tally) ask(times int64) {
	t.told.Asked += times
}

// pay: so much was paid, for as many instructions.
func (t *tally) pay(cost int64) {
	t.told.Paid += cost
	t.told.Executed += cost
}

// back: so much was given back, for as many instructions that were not executed.
func (t *tally) back(cost int64) {
	t.told.Back += cost
	t.told.Executed -= cost
}

// enter: so many segments were entered.
func (t *tally) enter(times int64) {
	t.told.Entered += times
}

func (t *tally) counts() Counts {
	return t.told
}

// single pays one by one.
type single struct{ tally }

// run counts by what was used from 0 on: from where the state stands Used might come to its most, and tell less than was executed.
func (n *single) run(m api.Module, script []api.Reply, s api.State, fuel int64) (api.State, api.Errno) {
	before := s.Used
	if before > 0 && before <= api.MaxUsed { // any other one that is not 0 is refused, and must be seen
		s.Used = 0
	}
	state, e := slow.Run(m, script, s, fuel)
	if e != api.OK {
		return api.State{}, e
	}
	n.ask(state.Used)
	n.pay(state.Used)
	if state.End == api.Suspended { // it was asked of the instruction that was not executed, too
		n.ask(1)
	}
	state.Used = before + min(state.Used, api.MaxUsed-before)
	return state, api.OK
}

// whole pays for whole segments.
type whole struct{ tally }

func (n *whole) run(m api.Module, script []api.Reply, s api.State, fuel int64) (api.State, api.Errno) {
	state, told, e := ahead.Run(m, script, s, fuel)
	n.ask(told.Asked)
	n.pay(told.Paid)
	n.back(told.Back)
	n.enter(told.Entered)
	return state, e
}

// Package walk makes the steps of a run, and lets each one's place be seen: layer 16 tells the states that they come to, layers 26 and 27 ask for the places, too. See shared/doc/16-step.md, shared/doc/26-trace.md and shared/doc/27-profile.md.
package walk

import "flagon/api"

// Place: of a step: how many frames there are but the last one, and where that one stands.
type Place struct {
	Depth, Function, Pc int
}

// Run: the state behind so many steps, or behind fewer, if the run ends, or if see says false: it is handed each step's place ahead of the step, which then is not made. (A see that is nil is not asked.)
func Run(m api.Module, script []api.Reply, s api.State, steps int64, see func(p Place) bool) (api.State, api.Errno) {
	r, e := begun(m, script, s)
	if e != api.OK {
		return api.State{}, e
	}
	for ; steps > 0 && !r.ended() && (see == nil || see(r.place())); steps-- {
		r.step()
	}
	return r.told(), api.OK
}

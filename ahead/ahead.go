// Package ahead is the engine that pays for whole segments ahead, and counts what it does with its fuel: layer 19 tells its states, layer 20 its counts, too. See shared/doc/19-fast.md and shared/doc/20-meter.md.
package ahead

import (
	"flagon/api"
	"flagon/frame"
)

// Run: the state behind as many steps as fuel says, or behind fewer, if the run ends; and what was counted.
func Run(m api.Module, script []api.Reply, s api.State, fuel int64) (api.State, Counts, api.Errno) {
	if e := refusal(m, s, fuel); e != api.OK {
		return api.State{}, Counts{}, e
	}
	n := begun(m, script, s, fuel)
	n.run()
	return n.told(), n.Counts, api.OK
}

// refusal: why a run does not go on, the reason that comes first.
func refusal(m api.Module, s api.State, fuel int64) api.Errno {
	e, _ := frame.Check(m, s) // it tells the module's error, too, and ahead of the state's
	switch {
	case e != api.OK:
		return e
	case fuel < 0:
		return api.ErrFuel
	case s.End != api.Suspended:
		return api.ErrDone
	}
	return api.OK
}

package debug_test

import (
	"testing"

	"flagon/api"
	"flagon/slow"
)

// pieces: how many pieces of memory a call takes. By what it answers nobody can tell how often steps were made, or what was asked of the module: by this one can, where each call of a function takes a piece.
func pieces(call func()) float64 {
	return testing.AllocsPerRun(3, call)
}

// calling goes round for ever, four steps each time, and calls a function that has a local.
func calling() (api.Module, api.State) {
	m := of(">", "", "loop:> call:1 br:0 end end")
	put(&m, ">", "l", "nop end")
	return m, begun(m)
}

// TestWork: a run makes each step once, and asks nothing of the module anew, however often it is stopped.
func TestWork(t *testing.T) {
	const some = 20000
	m, s := calling()
	most := pieces(func() { slow.Run(m, nil, s, some) })
	if most < some/4 {
		t.Fatalf("the pieces are too few: %g", most)
	}
	d := bugged(t, m, nil, s)
	watches(t, d, 0, 64)
	if got := pieces(func() { d.Run(some) }); got > most {
		t.Errorf("%g pieces of memory for a run, not %g", got, most)
	}
	goes(t, d, mostSteps, 4*some, 0)
	breaks(t, d, [2]int{0, 2})
	if got := pieces(func() {
		for range some / 4 {
			d.Run(mostSteps - 4*some)
		}
	}); got > most {
		t.Errorf("%g pieces of memory for a run with breakpoints, not %g", got, most)
	}
	d.Back(mostSteps)
	if got := pieces(func() {
		for range some {
			d.Run(1)
		}
	}); got > most {
		t.Errorf("%g pieces of memory for a run step by step, not %g", got, most)
	}
}

// TestBackWork: a run that goes back by a little does not begin anew.
func TestBackWork(t *testing.T) {
	m, s := calling()
	d := bugged(t, m, nil, s)
	d.Run(mostSteps)
	if got := pieces(func() { d.Back(1) }); got > 2000 {
		t.Errorf("%g pieces of memory to go back by a step", got)
	}
}

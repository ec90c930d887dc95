package profile_test

import (
	"testing"

	"flagon/api"
	"flagon/profile"
	"flagon/slow"
)

// pieces: how many pieces of memory a call takes. By what it answers nobody can tell which steps were made more than once: by this one can, where each call of a function takes a piece.
func pieces(call func()) float64 {
	return testing.AllocsPerRun(3, call)
}

// calling goes round for ever, four steps each time, and calls a function that has a local.
func calling() (api.Module, api.State) {
	m := of(">", "", "loop:> call:1 br:0 end end")
	put(&m, ">", "l", "nop end")
	return m, begun(m)
}

// TestWork: what is asked of the module and the state is not asked at each step anew, and the steps of a run are made but once.
func TestWork(t *testing.T) {
	const fuel = 1 << 18
	m, s := calling()
	run := pieces(func() { slow.Run(m, nil, s, fuel) })
	if run < fuel/4 {
		t.Fatalf("the pieces are too few: %g", run)
	}
	if all := pieces(func() { profile.Counts(m, nil, s, fuel) }); all > run+1000 {
		t.Errorf("%g pieces of memory for what is counted, %g for the run", all, run)
	}
	round, begin := counting()
	if all := pieces(func() { profile.Counts(round, nil, begin, fuel) }); all > 1000 {
		t.Errorf("%g pieces of memory for %d steps without calls", all, fuel)
	}
}

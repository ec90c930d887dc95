package trace_test

import (
	"testing"

	"flagon/api"
	"flagon/slow"
	"flagon/trace"
)

// pieces: how many pieces of memory a call takes. By what it answers nobody can tell which steps were made more than once: by this one can, where each call of a function takes a piece.
func pieces(call func()) float64 {
	return testing.AllocsPerRun(3, call)
}

// calling goes round for ever, four steps each time, and calls a function that has a local.
func calling() (api.Module, api.State) {
	m := of(">", "", "loop:> call:1 br:0 end end")
	put(&m, ">", "l", "nop end")
	return m, begun(m)
}

// TestWork: what is asked of the module and the state is not asked at each step anew, and the steps behind the last event are not gone through for events.
func TestWork(t *testing.T) {
	m, s := calling()
	run := pieces(func() { slow.Run(m, nil, s, 4*mostOf) })
	if run < mostOf {
		t.Fatalf("the pieces are too few: %g", run)
	}
	if few := pieces(func() { trace.Of(m, nil, s, 4*mostOf, 9) }); few > run+1000 {
		t.Errorf("%g pieces of memory for nine events, %g for the run", few, run)
	}
	if all := pieces(func() { trace.Of(m, nil, s, mostOf, mostOf) }); all > 3*mostOf {
		t.Errorf("%g pieces of memory for %d events", all, mostOf)
	}
	round, begin := counting()
	if all := pieces(func() { trace.Of(round, nil, begin, mostOf, mostOf) }); all > 1000 {
		t.Errorf("%g pieces of memory for %d events without calls", all, mostOf)
	}
}

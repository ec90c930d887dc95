package back_test

import (
	"math"
	"testing"

	"flagon/api"
	"flagon/back"
)

// pieces: how many pieces of memory a call takes. By what it answers nobody can tell from which state a tape went: by this one can, where each call of a function takes a piece.
func pieces(call func()) float64 {
	return testing.AllocsPerRun(5, call)
}

// calling goes round for ever, four steps each time, and calls a function that has a local.
func calling() (api.Module, api.State) {
	m := of(">", "", "loop:> call:1 br:0 end end")
	put(&m, ">", "l", "nop end")
	return m, begun(m)
}

// hop: how many pieces it takes to go to the one step, and from there to the other one.
func hop(x *back.Tape, from, to int64) float64 {
	return pieces(func() {
		x.Go(from)
		x.Go(to)
	})
}

// TestWork: a tape goes from the nearest state that is kept, or from where it stands; not from its beginning.
func TestWork(t *testing.T) {
	m, s := calling()
	const most, few = 100000, 2000
	x := taped(t, m, nil, s, 100)
	if whole := pieces(func() { x, _ = back.New(m, nil, s, 100); x.Go(most) }); whole < 10*few {
		t.Fatalf("the pieces are too few: %g", whole)
	}
	for _, way := range [][2]int64{{most, most - 1}, {most - 1, most}, {most, most}, {0, most}, {most / 2, most/2 - 1}, {most/2 + 99, most/2 - 99}, {0, 50099}, {99, most - 1}} {
		if got := hop(x, way[0], way[1]); got > few {
			t.Errorf("from %d to %d: %g pieces of memory", way[0], way[1], got)
		}
	}
	y := taped(t, m, nil, s, math.MaxInt)
	y.Go(most)
	to := int64(most)
	if got := pieces(func() { to++; y.Go(to) }); got > few {
		t.Errorf("on from where it stands: %g pieces of memory", got)
	}
	if got := pieces(func() { y.Go(to) }); got > few {
		t.Errorf("to where it stands: %g pieces of memory", got)
	}
}

// TestLongScript: a script of which most is never taken is not gone through at every stop.
func TestLongScript(t *testing.T) {
	m := of(">", "", "loop:> host:0 br:0 end end")
	m.Hosts = []int{kind(&m, ">")}
	script := make([]api.Reply, 100000)
	for at := range script {
		script[at].Results = []uint64{1} // none fits
	}
	for at := range 1000 {
		script[at].Results = nil
	}
	x := taped(t, m, script, begun(m), 1)
	if got := pieces(func() { x.Go(0); x.Go(900) }); got > 1000 {
		t.Errorf("%g pieces of memory", got)
	}
	to := int64(900)
	if got := pieces(func() { to++; x.Go(to) }); got > 1000 {
		t.Errorf("%g pieces of memory for one step", got)
	}
}

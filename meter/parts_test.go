package meter_test

import (
	"fmt"
	"math"
	"math/rand"
	"testing"

	"flagon/api"
	"flagon/meter"
)

// TestMostUsed: Used stops at 2^62, and the counts tell all that was executed.
func TestMostUsed(t *testing.T) {
	m, s := counting()
	for _, used := range []int64{1, 1 << 31, 1 << 61, mostUsed - 1000, mostUsed - 9, mostUsed - 2, mostUsed - 1, mostUsed} {
		s.Used = used
		for _, fuel := range []int64{0, 1, 2, 3, 5, 6, 8, 9, 10, 999, 1000, 1001, 1 << 20, 4194305} {
			counts(t, byFast, m, nil, s, fuel, counted(fuel))
			counts(t, bySlow, m, nil, s, fuel, slowly(fuel, true))
			for _, engine := range both() {
				if got, _ := ran(t, engine, m, nil, s, fuel); got.Used != min(used+fuel, mostUsed) {
					t.Errorf("P20.1: engine %d, fuel %d behind %d: %d", engine, fuel, used, got.Used)
				}
			}
		}
	}
}

// TestMostTraps: near 2^62, too, what is given back is told, and is no part of Used; runs that end as well as others.
func TestMostTraps(t *testing.T) {
	trap := paged(1, 1, ">", "", "w.const:-1 w.load8u drop nop*9 end")
	halt := of(">", "", "nop*19 end")
	for back := range int64(25) {
		s := begun(trap)
		s.Used = mostUsed - back
		counts(t, byFast, trap, nil, s, 100, "2 1 13 11 1")
		counts(t, byFast, trap, nil, s, 12, "2 3 2 0 1")
		counts(t, bySlow, trap, nil, s, 100, "2 2 2 0 0")
		comes(t, trap, nil, s, 100, fmt.Sprint("trapped used ", min(mostUsed, s.Used+2), " trap 2 pages 1 0"))
		s = begun(halt)
		s.Used = mostUsed - back
		counts(t, byFast, halt, nil, s, 100, "20 2 20 0 2")
		counts(t, bySlow, halt, nil, s, 100, "20 20 20 0 0")
		comes(t, halt, nil, s, 100, fmt.Sprint("halted used ", min(mostUsed, s.Used+20), " results"))
	}
}

// TestBeyondUsed: a state that has used more than can be, or less than nothing, may not be, with either engine.
func TestBeyondUsed(t *testing.T) {
	m, s := counting()
	for _, used := range []int64{math.MinInt64, -mostUsed, -2, -1, mostUsed + 1, mostUsed + 2, math.MaxInt64} {
		s.Used = used
		refused(t, m, nil, s, api.ErrState, append(below(), above()...)...)
	}
}

// total: counts of two parts together.
func total(a, b meter.Counts) meter.Counts {
	return meter.Counts{Executed: a.Executed + b.Executed, Asked: a.Asked + b.Asked, Paid: a.Paid + b.Paid, Back: a.Back + b.Back, Entered: a.Entered + b.Entered}
}

// halves: of a run in two parts the states are those of one run, what is executed is as much, and what is paid and not given back; of the engine that pays one by one it is asked once more, of the other one a segment more is entered: the one in which the first part was suspended, again.
func halves(t *testing.T, engine, next int8, x small, f, g int64) {
	t.Helper()
	mid, c := ran(t, engine, x.m, x.script, x.s, f)
	if mid.End != suspended {
		nothing(t, next, x.m, x.script, mid, g, api.ErrDone)
		return
	}
	got, d := ran(t, next, x.m, x.script, mid, g)
	want, all := ran(t, engine, x.m, x.script, x.s, f+g)
	sum := total(c, d)
	if !identical(got, want) || sum.Executed != all.Executed || sum.Paid-sum.Back != all.Paid-all.Back {
		t.Fatalf("W4: %d by engine %d and %d by engine %d: %s, %s, not %s, %s", f, engine, g, next, show(got), told(sum), show(want), told(all))
	}
	if engine != next {
		return
	}
	if engine == bySlow && sum != (meter.Counts{Executed: all.Executed, Asked: all.Asked + 1, Paid: all.Paid}) || engine == byFast && sum.Entered != all.Entered+1 {
		t.Fatalf("P20.1: %d and %d by engine %d: %s, and %s of one run", f, g, engine, told(sum), told(all))
	}
}

// TestHalves: every split of small runs and of runs through several segments, engines mixed.
func TestHalves(t *testing.T) {
	t.Parallel()
	for _, x := range append(segmented(), smalls()...) {
		for f := range int64(x.steps + 2) {
			for _, g := range []int64{0, 1, 2, 15, 16, 17, 100} {
				for pair := range 4 {
					halves(t, both()[pair/2], both()[pair%2], x, f, g)
				}
			}
		}
	}
}

// TestTurns: drawn runs, cut at any places, each part by one engine or by the other.
func TestTurns(t *testing.T) {
	r := rand.New(rand.NewSource(207))
	const most = 200
	for range 200 {
		m := drawnModule(r)
		script, s := drawnScript(r, m), drawnState(r, m)
		want, all := ran(t, bySlow, m, script, s, most)
		at, left := s, int64(most)
		var sum meter.Counts
		for at.End == suspended && left > 0 {
			part := min(int64(r.Intn(40)), left)
			next, c := ran(t, both()[r.Intn(2)], m, script, at, part)
			at, left, sum = next, left-part, total(sum, c)
		}
		if !identical(at, want) || sum.Executed != all.Executed || sum.Paid-sum.Back != all.Paid {
			t.Fatalf("W4: from %s: %s, %s, not %s, %s", show(s), show(at), told(sum), show(want), told(all))
		}
	}
}

package slow_test

import (
	"math"
	"math/rand"
	"testing"

	"flagon/api"
	"flagon/frame"
	"flagon/slow"
)

// fold: is Run of each fuel the state behind as many single steps, and Used more by just the fuel, if it is suspended, by at most that else?
func fold(t *testing.T, x small) []api.State {
	t.Helper()
	way := single(t, x.m, x.script, x.s, x.steps)
	for fuel := range x.steps + 4 {
		got := ran(t, x.m, x.script, x.s, int64(fuel))
		want := way[min(fuel, len(way)-1)]
		if fuel >= len(way) && want.End == suspended {
			continue
		}
		if !identical(got, want) {
			t.Fatalf("W6: %s, fuel %d: %s, not %s", code(x.m, 0), fuel, show(got), show(want))
		}
		if e, place := frame.Check(x.m, got); e != api.OK {
			t.Fatalf("W6: fuel %d: %d at %d of %s", fuel, e, place, show(got))
		}
		paid(t, x.s, got, int64(fuel))
	}
	return way
}

// paid: what Used became more by, of a run that does not come to the most that can be used.
func paid(t *testing.T, ahead, behind api.State, fuel int64) {
	t.Helper()
	more := behind.Used - ahead.Used
	if behind.Used == mostUsed {
		return
	}
	if more > fuel || more < 0 || behind.End == suspended && more != fuel {
		t.Fatalf("W6: fuel %d: Used %d behind %d, %s", fuel, behind.Used, ahead.Used, show(behind))
	}
}

// TestFold: Run beside as many single steps, for every fuel of small runs, to their ends and beyond.
func TestFold(t *testing.T) {
	endless := 0
	for _, x := range smalls() {
		way := fold(t, x)
		if len(way) != x.steps+1 {
			t.Errorf("%s: %d steps, not %d", code(x.m, 0), len(way)-1, x.steps)
		}
		if way[len(way)-1].End == suspended {
			endless++
		}
		fold(t, late(x, 5))
		fold(t, late(x, 0))
	}
	if endless != 1 {
		t.Errorf("%d of the small runs have not ended", endless)
	}
}

// sums: is Run of f and then of g Run of their sum, for each f and g of so many in all? Where f has ended the run, it is ErrDone of g, and the sum comes to no more than f did.
func sums(t *testing.T, x small) {
	t.Helper()
	at := make([]api.State, x.steps+4)
	for fuel := range at {
		at[fuel] = ran(t, x.m, x.script, x.s, int64(fuel))
	}
	for f := range at {
		for g := 0; f+g < len(at); g++ {
			if at[f].End != suspended {
				refused(t, x.m, x.script, at[f], api.ErrDone, int64(g), math.MaxInt64)
				refused(t, x.m, x.script, at[f], api.ErrFuel, -1-int64(g))
				if !identical(at[f], at[f+g]) {
					t.Fatalf("W6: %d and %d: %s, not %s", f, g, show(at[f]), show(at[f+g]))
				}
				continue
			}
			if got := ran(t, x.m, x.script, at[f], int64(g)); !identical(got, at[f+g]) {
				t.Fatalf("W6: %d and %d: %s, not %s", f, g, show(got), show(at[f+g]))
			}
		}
	}
}

// TestSums: every split of small runs, to their ends and beyond.
func TestSums(t *testing.T) {
	for _, x := range smalls() {
		sums(t, x)
		far := late(x, 5)
		far.steps = min(far.steps, 12)
		sums(t, far)
	}
}

// TestHighSums: what is left of the highest fuel ends a run as all of it does.
func TestHighSums(t *testing.T) {
	for _, x := range smalls() {
		way := single(t, x.m, x.script, x.s, x.steps)
		end := way[len(way)-1]
		if end.End == suspended {
			continue
		}
		for f := range len(way) - 1 {
			if got := ran(t, x.m, x.script, ran(t, x.m, x.script, x.s, int64(f)), math.MaxInt64-int64(f)); !identical(got, end) {
				t.Fatalf("W6: the rest of the highest fuel, behind %d: %s, not %s", f, show(got), show(end))
			}
		}
	}
}

// TestLongSums: a run of millions of steps, cut where it goes on at once, or does not.
func TestLongSums(t *testing.T) {
	m, s := counting()
	want := ran(t, m, nil, s, 9000000)
	for _, f := range []int64{1, 4194303, 4194304, 4194305, 8388607, 8388608, 8388609, 9000000} {
		if got := ran(t, m, nil, ran(t, m, nil, s, f), 9000000-f); !identical(got, want) {
			t.Errorf("W6: %d and %d: %s, not %s", f, 9000000-f, show(got), show(want))
		}
	}
}

// TestDrawnRuns: runs of drawn modules, beside as many single steps; cut at any places they come to the same.
func TestDrawnRuns(t *testing.T) {
	r := rand.New(rand.NewSource(171))
	const most = 100
	ends := map[int8]int{}
	for range 200 {
		m := drawnModule(r)
		x := small{m, drawnScript(r, m), drawnBeginning(r, m), most}
		way := single(t, m, x.script, x.s, most)
		end := way[len(way)-1]
		ends[end.End]++
		for range 10 {
			fuel := r.Intn(most + 1)
			got, want := ran(t, m, x.script, x.s, int64(fuel)), way[min(fuel, len(way)-1)]
			if !identical(got, want) {
				t.Fatalf("W6: %s, fuel %d: %s, not %s", code(m, 0), fuel, show(got), show(want))
			}
			paid(t, x.s, got, int64(fuel))
		}
		for at := x.s; at.End == suspended && at.Used < most; {
			at = ran(t, m, x.script, at, min(int64(r.Intn(30)), most-at.Used))
			if !identical(at, way[at.Used]) {
				t.Fatalf("W6: cut at %d: %s, not %s", at.Used, show(at), show(way[at.Used]))
			}
		}
	}
	for end := int8(suspended); end <= trapped; end++ {
		if ends[end] < 10 {
			t.Errorf("%d runs that stand as %d does", ends[end], end)
		}
	}
}

// TestDrawnStates: runs that go on from states that may be though none comes to them.
func TestDrawnStates(t *testing.T) {
	r := rand.New(rand.NewSource(172))
	for range 300 {
		m := drawnModule(r)
		script := drawnScript(r, m)
		for range 3 {
			fold(t, small{m, script, drawnState(r, m), 1 + r.Intn(6)})
		}
	}
}

// TestAgain: a call's answer hangs on its arguments alone, whatever was called between.
func TestAgain(t *testing.T) {
	r := rand.New(rand.NewSource(173))
	for range 100 {
		m := drawnModule(r)
		script, s := drawnScript(r, m), drawnState(r, m)
		first := ran(t, m, script, s, 20)
		other := drawnModule(r)
		slow.Run(other, drawnScript(r, other), drawnState(r, other), 20)
		slow.Run(m, nil, s, 7)
		if again := ran(t, m, script, s, 20); !identical(first, again) {
			t.Fatalf("R6: %s, then %s", show(first), show(again))
		}
	}
}

package fast_test

import (
	"math"
	"math/rand"
	"testing"

	"flagon/api"
	"flagon/fast"
	"flagon/slow"
)

// sums: is Run of f and then of g Run of their sum, for each f and g of so many in all? Where f has ended the run, it is ErrDone of g, and the sum comes to no more than f did.
func sums(t *testing.T, x small) {
	t.Helper()
	at := make([]api.State, x.steps+4)
	for fuel := range at {
		at[fuel] = ran(t, x.m, x.script, x.s, int64(fuel))
	}
	for f := range at {
		for g := 0; f+g < len(at); g++ {
			if at[f].End != suspended {
				if _, e := fast.Run(x.m, x.script, at[f], int64(g)); e != api.ErrDone || !identical(at[f], at[f+g]) {
					t.Fatalf("W1: %d and %d: %d, %s, not %s", f, g, e, show(at[f]), show(at[f+g]))
				}
				continue
			}
			if got := ran(t, x.m, x.script, at[f], int64(g)); !identical(got, at[f+g]) {
				t.Fatalf("W1: %d and %d: %s, not %s", f, g, show(got), show(at[f+g]))
			}
		}
	}
}

// TestSums: every split of small runs and of runs through several segments, to their ends and beyond.
func TestSums(t *testing.T) {
	t.Parallel()
	for _, x := range append(segmented(), smalls()...) {
		sums(t, x)
		far := late(x, 5)
		far.steps = min(far.steps, 20)
		sums(t, far)
	}
}

// TestHighSums: what is left of the highest fuel ends a run as all of it does.
func TestHighSums(t *testing.T) {
	for _, x := range append(segmented(), smalls()...) {
		end := single(t, x.m, x.script, x.s, x.steps)[x.steps]
		if end.End == suspended {
			continue
		}
		for f := range int64(x.steps) {
			if got := ran(t, x.m, x.script, ran(t, x.m, x.script, x.s, f), math.MaxInt64-f); !identical(got, end) {
				t.Fatalf("W1: the rest of the highest fuel, behind %d: %s, not %s", f, show(got), show(end))
			}
		}
	}
}

// TestOnes: a run that is given fuel one by one, or by twos, threes and so on to seventeen, with none between.
func TestOnes(t *testing.T) {
	for _, x := range append(segmented(), smalls()...) {
		way := single(t, x.m, x.script, x.s, x.steps)
		for part := 1; part <= 17; part++ {
			s := x.s
			for done := 0; done < x.steps; {
				fuel := min(part, x.steps-done)
				done += fuel
				s = ran(t, x.m, x.script, ran(t, x.m, x.script, s, 0), int64(fuel))
				if want := way[done]; !identical(s, want) {
					t.Fatalf("W1: by %d, behind %d: %s, not %s", part, done, show(s), show(want))
				}
			}
		}
	}
}

// TestTurns: drawn runs, cut at any places, each part by one engine or by the other.
func TestTurns(t *testing.T) {
	r := rand.New(rand.NewSource(197))
	const most = 200
	engines := []func(m api.Module, script []api.Reply, s api.State, fuel int64) (api.State, api.Errno){fast.Run, slow.Run}
	for range 300 {
		m := drawnModule(r)
		script, s := drawnScript(r, m), drawnState(r, m)
		s.Used %= 1 << 40
		want, _ := slow.Run(m, script, s, most)
		at, left := s, int64(most)
		for at.End == suspended && left > 0 {
			part := min(int64(r.Intn(40)), left)
			next, e := engines[r.Intn(2)](m, script, at, part)
			if e != api.OK {
				t.Fatalf("W1: %d of %s", e, show(at))
			}
			at, left = next, left-part
		}
		if !identical(at, want) {
			t.Fatalf("W1: from %s: %s, not %s", show(s), show(at), show(want))
		}
	}
}

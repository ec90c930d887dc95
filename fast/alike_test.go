package fast_test

import (
	"math"
	"math/rand"
	"testing"

	"flagon/api"
	"flagon/fast"
	"flagon/frame"
	"flagon/slow"
)

// beside is fast.Run, whose answer must be that of slow.Run, and a state that may be, if it is no error.
func beside(t *testing.T, m api.Module, script []api.Reply, s api.State, fuel int64) (api.State, api.Errno) {
	t.Helper()
	got, e := fast.Run(m, script, s, fuel)
	want, f := slow.Run(m, script, s, fuel)
	if e != f || !identical(got, want) {
		t.Fatalf("W1: fuel %d, from %s: %d, %s, not %d, %s", fuel, show(s), e, show(got), f, show(want))
	}
	if e != api.OK {
		return got, e
	}
	if e, place := frame.Check(m, got); e != api.OK {
		t.Fatalf("P19.1: fuel %d, from %s: %d at %d of %s", fuel, show(s), e, place, show(got))
	}
	paid(t, s, got, fuel)
	return got, e
}

// paid: what Used became more by: just the fuel, if it is suspended, at most that else; of a run that does not come to the most that can be used.
func paid(t *testing.T, ahead, behind api.State, fuel int64) {
	t.Helper()
	more := behind.Used - ahead.Used
	if behind.Used == mostUsed {
		return
	}
	if more > fuel || more < 0 || behind.End == suspended && more != fuel {
		t.Fatalf("W1: fuel %d: Used %d behind %d, %s", fuel, behind.Used, ahead.Used, show(behind))
	}
}

// every: a run beside the other engine, and beside as many single steps, for every fuel from below 0 to its end and beyond; the states on its way.
func every(t *testing.T, x small) []api.State {
	t.Helper()
	way := single(t, x.m, x.script, x.s, x.steps)
	last := len(way) - 1
	for fuel := -2; fuel <= last+17; fuel++ {
		if fuel > last && way[last].End == suspended {
			break
		}
		got, e := beside(t, x.m, x.script, x.s, int64(fuel))
		if fuel < 0 {
			if e != api.ErrFuel {
				t.Fatalf("P19.1: fuel %d: %d", fuel, e)
			}
			continue
		}
		if want := way[min(fuel, last)]; e != api.OK || !identical(got, want) {
			t.Fatalf("P19.1: fuel %d: %d, %s, not %s", fuel, e, show(got), show(want))
		}
	}
	if way[last].End != suspended {
		beside(t, x.m, x.script, x.s, math.MaxInt64)
	}
	return way
}

// TestEvery: every fuel of small runs, to their ends and beyond, near the most that can be used, too.
func TestEvery(t *testing.T) {
	for _, x := range smalls() {
		if way := every(t, x); len(way) != x.steps+1 {
			t.Errorf("%s: %d steps, not %d", code(x.m, 0), len(way)-1, x.steps)
		}
		for back := range int64(20) {
			every(t, late(x, back))
		}
	}
}

// TestDrawnRuns: runs of drawn modules from their beginnings, every fuel.
func TestDrawnRuns(t *testing.T) {
	t.Parallel()
	r := rand.New(rand.NewSource(191))
	ends := map[int8]int{}
	for range 200 {
		m := drawnModule(r)
		way := every(t, small{m, drawnScript(r, m), drawnBeginning(r, m), 60})
		ends[way[len(way)-1].End]++
	}
	for end := int8(suspended); end <= trapped; end++ {
		if ends[end] < 10 {
			t.Errorf("%d runs that stand as %d does", ends[end], end)
		}
	}
}

// TestDrawnStates: runs that go on from states that may be though none comes to them, every fuel.
func TestDrawnStates(t *testing.T) {
	t.Parallel()
	r := rand.New(rand.NewSource(192))
	deepest, traps := 0, map[int8]int{}
	for range 180 {
		m := drawnModule(r)
		script := drawnScript(r, m)
		for range 3 {
			s := drawnState(r, m)
			deepest = max(deepest, len(s.Frames))
			way := every(t, small{m, script, s, 1 + r.Intn(24)})
			traps[way[len(way)-1].Trap]++
		}
	}
	for _, trap := range []int8{trapOp, trapMemory, trapZero, trapFrames, trapHost} {
		if traps[trap] < 3 {
			t.Errorf("%d runs that trap by %d", traps[trap], trap)
		}
	}
	if deepest != most64 {
		t.Errorf("%d frames at most", deepest)
	}
}

// TestDrawnLong: runs with much fuel, and with all that can be given where they end.
func TestDrawnLong(t *testing.T) {
	t.Parallel()
	r := rand.New(rand.NewSource(193))
	far := 0
	for range 1500 {
		m := drawnModule(r)
		script, s := drawnScript(r, m), drawnState(r, m)
		got, _ := beside(t, m, script, s, 3000+int64(r.Intn(3000)))
		if got.End != suspended {
			beside(t, m, script, s, math.MaxInt64)
			beside(t, m, script, s, 1<<31)
			continue
		}
		far++
		beside(t, m, script, got, int64(r.Intn(100)))
	}
	if far < 20 {
		t.Errorf("%d runs that go far", far)
	}
}

// damaged: one thing of a module, or of a state, is another one.
func damaged(r *rand.Rand, m *api.Module, s *api.State) {
	f := &m.Functions[r.Intn(len(m.Functions))]
	x := &f.Code[r.Intn(len(f.Code))]
	k := &s.Frames[r.Intn(len(s.Frames))]
	[]func(){
		func() { x.Op = byte(r.Intn(256)) },
		func() { x.A = []int64{-1, 0, 1, 2, 1 << 40}[r.Intn(5)] },
		func() { x.Op, x.A, x.L = byte(r.Intn(13)), 0, nil },
		func() { x.L = append(x.L, r.Intn(4)) },
		func() { f.Locals += "w" },
		func() { f.Type = r.Intn(len(m.Types)+2) - 1 },
		func() { f.Code = f.Code[:len(f.Code)-1] },
		func() { m.Most = r.Intn(70) - 3 },
		func() { k.Pc += r.Intn(5) - 2 },
		func() { k.Function = r.Intn(5) - 1 },
		func() { k.Stack = append(k.Stack, drawnValue(r, 'l')) },
		func() { k.Locals = append(k.Locals, 0) },
		func() { s.End = int8(r.Intn(5)) },
		func() { s.Trap = int8(r.Intn(9) - 1) },
		func() { s.Used = int64(r.Intn(3)) - 2 },
		func() { s.Replies = r.Intn(3) - 2 },
		func() { s.Pages = blank(r.Intn(5)) },
		func() { s.Globals = append(s.Globals, 0) },
		func() { s.Frames = append(s.Frames, api.Frame{}) },
		func() { s.Frames = nil },
		func() { s.Frames, s.End, s.Results = nil, halted, make([]uint64, r.Intn(10)) },
		func() { s.Frames, s.End, s.Trap = nil, trapped, int8(r.Intn(8)) },
	}[r.Intn(22)]()
}

// TestDrawnErrors: what may not run, what may not be, what has ended, and fuel below 0, all of them drawn: the same errors.
func TestDrawnErrors(t *testing.T) {
	t.Parallel()
	r := rand.New(rand.NewSource(195))
	errs := map[api.Errno]int{}
	for range 3000 {
		m := drawnModule(r)
		s := drawnState(r, m)
		damaged(r, &m, &s)
		for _, fuel := range []int64{-1, 0, 20} {
			_, e := beside(t, m, nil, s, fuel)
			errs[e]++
		}
	}
	for _, e := range []api.Errno{api.OK, api.ErrFuel, api.ErrState, api.ErrDone, api.ErrOp, api.ErrIndex, api.ErrStack, api.ErrCut, api.ErrRange, api.ErrDead} {
		if errs[e] < 10 {
			t.Errorf("the error %d %d times: %v", e, errs[e], errs)
		}
	}
}

// TestAgain: a call's answer hangs on its arguments alone, whatever was called between.
func TestAgain(t *testing.T) {
	r := rand.New(rand.NewSource(196))
	for range 100 {
		m := drawnModule(r)
		script, s := drawnScript(r, m), drawnState(r, m)
		first := ran(t, m, script, s, 20)
		other := drawnModule(r)
		fast.Run(other, drawnScript(r, other), drawnState(r, other), 20)
		fast.Run(m, nil, s, 7)
		if again := ran(t, m, script, s, 20); !identical(first, again) {
			t.Fatalf("R6: %s, then %s", show(first), show(again))
		}
	}
}

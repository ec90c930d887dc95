package step_test

import (
	"maps"
	"math/rand"
	"slices"
	"testing"

	"flagon/api"
	"flagon/step"
)

// small is a run that ends, or is looked at for so many steps.
type small struct {
	m      api.Module
	script []api.Reply
	s      api.State
	steps  int
}

// smalls are short runs of each kind: halting, trapping, endless; with calls, hosts, a memory.
func smalls() []small {
	loop := of("w>w", "", "loop:> get:0 w.const:1 w.sub tee:0 brif:0 end w.const:7 end")
	fact := of("l>l", "", "get:0 l.eqz if:>l l.const:1 else get:0 get:0 l.const:1 l.sub call:0 l.mul end end")
	round := paged(0, 3, ">", "", "loop:> w.const:1 grow drop w.const:4095 w.const:9 w.store8 br:0 end end")
	trap := of(">w", "", "w.const:1 w.const:0 w.divs end")
	endless := of(">", "", "call:0 end")
	return []small{
		{loop, nil, begun(loop, 3), 19},
		{fact, nil, begun(fact, 3), 40},
		{round, nil, begun(round), 30},
		{trap, nil, begun(trap), 3},
		{endless, nil, begun(endless), 64},
		{rich(), []api.Reply{{}, {Results: []uint64{5}}}, begun(rich(), 7), 22},
		{rich(), []api.Reply{{}, {Trap: true}}, begun(rich(), 7), 16},
		{rich(), nil, deep(), 9},
		{rich(), nil, ended(halted), 0},
		{rich(), nil, ended(trapped), 0},
	}
}

// splits: is Steps of a and b together Steps of b behind Steps of a, for each a and b of so many in all?
func splits(t *testing.T, m api.Module, script []api.Reply, s api.State, most int) {
	t.Helper()
	at := make([]api.State, most+1)
	for n := range at {
		var e api.Errno
		if at[n], e = step.Steps(m, script, s, n); e != api.OK {
			t.Fatalf("P16.2: %d steps: %d", n, e)
		}
	}
	for a := range at {
		for b := 0; a+b <= most; b++ {
			if got, e := step.Steps(m, script, at[a], b); e != api.OK || !identical(got, at[a+b]) {
				t.Fatalf("W6: %d and %d steps: %d, %s, not %s", a, b, e, show(got), show(at[a+b]))
			}
		}
	}
}

// TestSplits: every split of small runs, to their ends and beyond.
func TestSplits(t *testing.T) {
	for _, x := range smalls() {
		splits(t, x.m, x.script, x.s, x.steps+3)
		walk(t, x.m, x.script, x.s, x.steps+3)
		late := cloned(x.s)
		late.Used = mostUsed - 5
		splits(t, x.m, x.script, late, min(x.steps+3, 12))
	}
}

// TestDrawnRuns: runs of drawn modules, step by step as the model goes; cut at any places they come to the same.
func TestDrawnRuns(t *testing.T) {
	r := rand.New(rand.NewSource(162))
	const most = 100
	ends := map[int8]int{}
	for range 200 {
		m := drawnModule(r)
		script, s := drawnScript(r, m), drawnBeginning(r, m)
		end := walk(t, m, script, s, most)
		ends[end.End]++
		for at := s; at.End == suspended && at.Used < most; {
			if got, e := step.Steps(m, script, at, most-int(at.Used)); e != api.OK || !identical(got, end) {
				t.Fatalf("W6: cut at %d: %d, %s, not %s", at.Used, e, show(got), show(end))
			}
			at, _ = step.Steps(m, script, at, r.Intn(30))
		}
	}
	for end := int8(suspended); end <= trapped; end++ {
		if ends[end] < 20 {
			t.Errorf("%d runs that stand as %d does", ends[end], end)
		}
	}
}

// TestDrawnStates: one step, and some more, of states that may be though none comes to them; each instruction is met.
func TestDrawnStates(t *testing.T) {
	r := rand.New(rand.NewSource(163))
	met, traps := map[byte]int{}, map[int8]int{}
	for range 900 {
		m := drawnModule(r)
		script := drawnScript(r, m)
		for range 5 {
			s := drawnState(r, m)
			met[last(m, s).Op]++
			got := walk(t, m, script, s, 1+r.Intn(2))
			traps[got.Trap]++
		}
	}
	if missing := slices.DeleteFunc(slices.Sorted(maps.Keys(wordOf)), func(op byte) bool { return met[op] > 0 }); len(missing) > 0 {
		t.Errorf("instructions that are not met: %x", missing)
	}
	for _, trap := range []int8{0, trapOp, trapMemory, trapZero, trapFrames, trapHost} { // trapRange is too rare
		if traps[trap] == 0 {
			t.Errorf("the trap %d is not met", trap)
		}
	}
}

// TestAgain: a call's answer hangs on its arguments alone, whatever was called between.
func TestAgain(t *testing.T) {
	r := rand.New(rand.NewSource(164))
	for range 100 {
		m := drawnModule(r)
		script, s := drawnScript(r, m), drawnState(r, m)
		first, e := step.Steps(m, script, s, 20)
		other := drawnModule(r)
		step.Steps(other, drawnScript(r, other), drawnState(r, other), 20)
		step.Step(m, nil, s)
		if again, f := step.Steps(m, script, s, 20); f != e || e != api.OK || !identical(first, again) {
			t.Fatalf("R6: %d, %s, then %d, %s", e, show(first), f, show(again))
		}
	}
}

package debug_test

import (
	"fmt"
	"math"
	"math/rand"
	"slices"
	"testing"

	"flagon/api"
	"flagon/debug"
	"flagon/slow"
)

func turned(s api.State, change func(s *api.State)) api.State {
	s = cloned(s)
	change(&s)
	return s
}

// outs: states of rich that may not be, at least one of each place of chapter 14.
func outs() []api.State {
	var list []api.State
	for _, s := range []api.State{deep(), ended(halted), ended(trapped)} {
		for _, change := range []func(s *api.State){
			func(s *api.State) { s.End = 0 },
			func(s *api.State) { s.End = 4 },
			func(s *api.State) { s.End = -1 },
			func(s *api.State) { s.End = s.End%3 + 1 },
			func(s *api.State) { s.Frames = slices.Repeat([]api.Frame{{Locals: []uint64{0, 0}}}, 65) },
			func(s *api.State) { s.Results = make([]uint64, 9) },
			func(s *api.State) { s.Trap = 7 },
			func(s *api.State) { s.Used = -1 },
			func(s *api.State) { s.Used = math.MinInt64 },
			func(s *api.State) { s.Used = mostUsed + 1 },
			func(s *api.State) { s.Used = math.MaxInt64 },
			func(s *api.State) { s.Replies = -1 },
			func(s *api.State) { s.Globals = nil },
			func(s *api.State) { s.Globals[0] = high },
			func(s *api.State) { s.Globals[1] = 0 },
			func(s *api.State) { s.Pages = nil },
			func(s *api.State) { s.Pages = blank(4) },
			func(s *api.State) { s.Pages[1] = s.Pages[1][1:] },
		} {
			list = append(list, turned(s, change))
		}
	}
	for _, change := range []func(s *api.State){
		func(s *api.State) { s.Frames = nil },
		func(s *api.State) { s.Frames = s.Frames[:1] },
		func(s *api.State) { s.Frames[0].Pc = 2 },
		func(s *api.State) { s.Frames[0].Stack = []uint64{7} },
		func(s *api.State) { s.Frames[1].Pc = -1 },
		func(s *api.State) { s.Frames[1].Pc = 12 },
		func(s *api.State) { s.Frames[1].Function = 2 },
		func(s *api.State) { s.Frames[1].Function = -1 },
		func(s *api.State) { s.Frames[1].Locals = nil },
		func(s *api.State) { s.Frames[1].Locals[0] = high },
		func(s *api.State) { s.Frames[1].Stack = []uint64{7} },
		func(s *api.State) { s.Frames[1].Stack[0] = high },
	} {
		list = append(list, turned(deep(), change))
	}
	return append(list, api.State{})
}

// overs: states of rich that have ended, with each trap, with none, some and as many results as may be.
func overs() []api.State {
	list := []api.State{ended(halted), turned(ended(halted), func(s *api.State) { s.Results = nil }), turned(ended(halted), func(s *api.State) { s.Results, s.Used = make([]uint64, 8), mostUsed })}
	for trap := int8(trapOp); trap <= trapHost; trap++ {
		list = append(list, turned(ended(trapped), func(s *api.State) { s.Trap = trap }))
	}
	return list
}

// barred: does New answer that error, as slow.Run with the fuel 0 does, and nothing beside it?
func barred(t *testing.T, m api.Module, script []api.Reply, s api.State, want api.Errno) {
	t.Helper()
	if _, e := slow.Run(m, script, s, 0); e != want {
		t.Fatalf("P17.1: %d, not %d", e, want)
	}
	if d, e := debug.New(m, script, s); e != want || d != nil {
		t.Fatalf("P28.1: %d, %t, not %d", e, d != nil, want)
	}
}

// damages: changes of rich by which it may not run, and the errors of that.
func damages() []struct {
	e      api.Errno
	change func(m *api.Module)
} {
	return []struct {
		e      api.Errno
		change func(m *api.Module)
	}{
		{api.ErrType, func(m *api.Module) { m.Types[0].Params = "x" }},
		{api.ErrTwice, func(m *api.Module) { m.Types[1] = m.Types[0] }},
		{api.ErrIndex, func(m *api.Module) { m.Hosts[0] = 9 }},
		{api.ErrRange, func(m *api.Module) { m.Globals[0].Value = high }},
		{api.ErrRange, func(m *api.Module) { m.First = -1 }},
		{api.ErrRange, func(m *api.Module) { m.Most = 65 }},
		{api.ErrIndex, func(m *api.Module) { m.Functions[0].Type = -1 }},
		{api.ErrOp, func(m *api.Module) { m.Functions[1].Code[0].Op = 0xff }},
		{api.ErrName, func(m *api.Module) { m.Exports = []api.Export{{}} }},
		{api.ErrCut, func(m *api.Module) { m.Functions[1].Code = nil }},
		{api.ErrRest, func(m *api.Module) { m.Functions[1].Code = append(m.Functions[1].Code, api.Ins{Op: 0x06}) }},
		{api.ErrElse, func(m *api.Module) { m.Functions[0].Code[3] = api.Ins{Op: 0x05} }},
		{api.ErrStack, func(m *api.Module) { m.Functions[0].Code[0] = api.Ins{Op: 0x01} }},
		{api.ErrIndex, func(m *api.Module) { m.Functions[0].Code[1].A = 2 }},
		{api.ErrMutable, func(m *api.Module) { m.Functions[1].Code[2].A = 1 }},
		{api.ErrDead, func(m *api.Module) { m.Functions[1].Code[0] = api.Ins{Op: 0x00} }},
		{api.ErrLabel, func(m *api.Module) { m.Functions[1].Code[0] = api.Ins{Op: 0x07, A: 9} }},
	}
}

// TestModuleFirst: validate.Module's error stands ahead of those of the state.
func TestModuleFirst(t *testing.T) {
	for _, x := range damages() {
		m := rich()
		x.change(&m)
		for _, s := range append(append(overs(), deep(), api.State{}), outs()...) {
			barred(t, m, nil, s, x.e)
		}
	}
}

// TestStates: ErrState of a state that may not be, ahead of ErrDone.
func TestStates(t *testing.T) {
	for _, s := range outs() {
		barred(t, rich(), []api.Reply{{}, {Trap: true}, {}}, s, api.ErrState)
	}
	barred(t, of(">", "", "nop end"), nil, deep(), api.ErrState)
	barred(t, rich(), nil, begun(of(">", "", "nop end")), api.ErrState)
	barred(t, rich(), nil, api.State{End: halted}, api.ErrState)
	barred(t, api.Module{}, nil, api.State{}, api.ErrState)
	barred(t, api.Module{}, nil, api.State{End: suspended}, api.ErrState)
	barred(t, api.Module{}, nil, api.State{End: suspended, Frames: []api.Frame{{}}}, api.ErrState)
}

// TestDone: ErrDone of what has ended; of what a debug came to at its end, too.
func TestDone(t *testing.T) {
	for _, s := range overs() {
		barred(t, rich(), []api.Reply{{}}, s, api.ErrDone)
	}
	barred(t, api.Module{}, nil, api.State{End: halted}, api.ErrDone)
	barred(t, api.Module{}, nil, api.State{End: trapped, Trap: trapHost}, api.ErrDone)
	for _, x := range smalls() {
		d := bugged(t, x.m, x.script, x.s)
		if why, _ := d.Run(70); why == over {
			barred(t, x.m, x.script, state(t, d), api.ErrDone)
		}
	}
}

// TestDrawnErrors: what may not run, what may not be, what has ended, all of them drawn.
func TestDrawnErrors(t *testing.T) {
	r := rand.New(rand.NewSource(281))
	errs := map[api.Errno]int{}
	for range 1500 {
		m := drawnModule(r)
		s := drawnState(r, m)
		damaged(r, &m, &s)
		_, want := slow.Run(m, nil, s, 0)
		errs[want]++
		if want != api.OK {
			barred(t, m, nil, s, want)
			continue
		}
		if got := state(t, bugged(t, m, nil, s)); !identical(got, s) {
			t.Fatalf("P28.1: %s, not %s", show(got), show(s))
		}
	}
	for _, e := range []api.Errno{api.OK, api.ErrState, api.ErrDone, api.ErrOp, api.ErrIndex, api.ErrStack, api.ErrCut, api.ErrRange, api.ErrDead} {
		if errs[e] < 5 {
			t.Errorf("the error %d %d times: %v", e, errs[e], errs)
		}
	}
}

// below: numbers below 0, and tooMany: above all steps that a run may make.
func below() []int64 {
	return []int64{-1, -2, -1000, -mostSteps, -mostSteps - 1, math.MinInt32, -1 << 32, math.MinInt64 + 1, math.MinInt64}
}

func tooMany() []int64 {
	return []int64{mostSteps + 1, mostSteps + 2, 2 * mostSteps, math.MaxInt32, 1 << 32, 1<<32 + 5, math.MaxInt64 - mostSteps, math.MaxInt64 - 1, math.MaxInt64}
}

// TestOrder: ErrFuel ahead of ErrMany, and that ahead of ErrDone, wherever the run stands.
func TestOrder(t *testing.T) {
	m := of(">", "", "nop*8 end")
	d := bugged(t, m, nil, begun(m))
	for at := range int64(10) {
		if at > 0 {
			d.Run(1)
		}
		for _, fuel := range below() {
			refuses(t, d, fuel, api.ErrFuel)
		}
		for _, fuel := range append(tooMany(), mostSteps-at+1, mostSteps-at+2) {
			refuses(t, d, fuel, api.ErrMany)
		}
	}
	for _, fuel := range []int64{0, 1, 9, mostSteps - 10, mostSteps - 9} {
		refuses(t, d, fuel, api.ErrDone)
	}
	refuses(t, d, mostSteps-8, api.ErrMany)
	refuses(t, d, -1, api.ErrFuel)
	goes(t, d, 1, 1, 8)
	refuses(t, d, mostSteps-7, api.ErrMany)
	stops(t, d, mostSteps-8, over, 9)
}

// TestMany: a run comes as far as 100,000 steps behind New's state, by one Run or by many, and no step further.
func TestMany(t *testing.T) {
	m, s := counting()
	one := bugged(t, m, nil, s)
	stops(t, one, mostSteps, fuelled, mostSteps)
	many := bugged(t, m, nil, s)
	for used := int64(0); used < mostSteps; used += 9999 {
		stops(t, many, min(9999, mostSteps-used), fuelled, min(used+9999, mostSteps))
	}
	for _, d := range []*debug.Debug{one, many} {
		stands(t, d, fmt.Sprint("suspended used ", mostSteps, " ", round(mostSteps)))
		stops(t, d, 0, fuelled, mostSteps)
		for _, fuel := range append(tooMany(), 1, 2, mostSteps) {
			refuses(t, d, fuel, api.ErrMany)
		}
		goes(t, d, 1, 1, mostSteps-1)
		refuses(t, d, 2, api.ErrMany)
		stops(t, d, 1, fuelled, mostSteps)
		refuses(t, d, 1, api.ErrMany)
		goes(t, d, 5000, 5000, mostSteps-5000)
		refuses(t, d, 5001, api.ErrMany)
		stops(t, d, 4000, fuelled, mostSteps-1000)
		refuses(t, d, 1001, api.ErrMany)
		goes(t, d, math.MaxInt64, mostSteps-1000, 0)
		refuses(t, d, mostSteps+1, api.ErrMany)
		stops(t, d, mostSteps, fuelled, mostSteps)
	}
}

// TestManyStops: the steps that count are those that were made, not the fuel of a Run that stopped ahead.
func TestManyStops(t *testing.T) {
	m, s := counting()
	d := bugged(t, m, nil, s)
	breaks(t, d, [2]int{0, 1})
	for k := range int64(200) {
		stops(t, d, mostSteps-max(5*k-4, 0), broke, 5*k+1)
		refuses(t, d, mostSteps-5*k, api.ErrMany)
	}
	stops(t, d, 99004, broke, 1001)
}

// TestEndsLast: a run that ends by the last step that it may make, and one that might end by the next one.
func TestEndsLast(t *testing.T) {
	for nops, want := range map[int]int8{6: over, 7: over, 8: fuelled} {
		m := of("w>", "", fmt.Sprint("loop:> get:0 w.const:1 w.sub tee:0 brif:0 end nop*", nops, " end"))
		d := bugged(t, m, nil, begun(m, 19998))
		used := min(1+5*19998+2+int64(nops), mostSteps)
		stops(t, d, mostSteps, want, used)
		if want == over {
			refuses(t, d, mostSteps-used, api.ErrDone)
		} else {
			stops(t, d, 0, fuelled, used)
		}
		refuses(t, d, mostSteps-used+1, api.ErrMany)
		goes(t, d, 2, 2, used-2)
		stops(t, d, 2, want, used)
	}
}

// TestBelow: Back below 0, wherever the run stands: ErrArg, and it stays.
func TestBelow(t *testing.T) {
	m := of(">", "", "nop*8 end")
	d := bugged(t, m, nil, begun(m))
	for at := range int64(10) {
		if at > 0 {
			d.Run(1)
		}
		before := state(t, d)
		for _, steps := range below() {
			if gone, e := d.Back(steps); gone != 0 || e != api.ErrArg || !identical(state(t, d), before) {
				t.Errorf("P28.5: Back(%d): %d, %d", steps, gone, e)
			}
		}
	}
}

// TestRefused: what is refused leaves no trace: the run goes on as without it.
func TestRefused(t *testing.T) {
	for _, x := range append(smalls(), segmented()...) {
		p := paired(t, x, single(t, x, x.steps))
		p.put(t, 0, 1)
		p.watch(t, 0, 64)
		for n := range len(p.way) {
			for _, fuel := range []int64{-1, mostSteps + 1, math.MinInt64, math.MaxInt64} {
				p.debug.Run(fuel)
				p.agrees(t)
			}
			p.debug.Back(-1)
			p.debug.Break(0, -1)
			p.debug.Watch(-1, 5)
			p.debug.Watch(0, 65)
			p.agrees(t)
			p.run(t, 1+n%3)
			if n%5 == 4 {
				p.back(t, 2)
			}
		}
	}
}

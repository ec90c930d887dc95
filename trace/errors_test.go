package trace_test

import (
	"math"
	"math/rand"
	"slices"
	"testing"

	"flagon/api"
	"flagon/slow"
	"flagon/trace"
)

func turned(s api.State, change func(s *api.State)) api.State {
	s = cloned(s)
	change(&s)
	return s
}

// outs: states of rich that may not be, at least one of each place of chapter 14.
func outs() []api.State {
	var list []api.State
	for _, s := range []api.State{deep(), ended(halted), ended(trapped)} {
		for _, change := range []func(s *api.State){
			func(s *api.State) { s.End = 0 },
			func(s *api.State) { s.End = 4 },
			func(s *api.State) { s.End = -1 },
			func(s *api.State) { s.End = s.End%3 + 1 },
			func(s *api.State) { s.Frames = slices.Repeat([]api.Frame{{Locals: []uint64{0, 0}}}, 65) },
			func(s *api.State) { s.Results = make([]uint64, 9) },
			func(s *api.State) { s.Trap = 7 },
			func(s *api.State) { s.Used = -1 },
			func(s *api.State) { s.Used = math.MinInt64 },
			func(s *api.State) { s.Used = mostUsed + 1 },
			func(s *api.State) { s.Used = math.MaxInt64 },
			func(s *api.State) { s.Replies = -1 },
			func(s *api.State) { s.Globals = nil },
			func(s *api.State) { s.Globals[0] = high },
			func(s *api.State) { s.Globals[1] = 0 },
			func(s *api.State) { s.Pages = nil },
			func(s *api.State) { s.Pages = blank(4) },
			func(s *api.State) { s.Pages[1] = s.Pages[1][1:] },
		} {
			list = append(list, turned(s, change))
		}
	}
	for _, change := range []func(s *api.State){
		func(s *api.State) { s.Frames = nil },
		func(s *api.State) { s.Frames = s.Frames[:1] },
		func(s *api.State) { s.Frames[0].Pc = 2 },
		func(s *api.State) { s.Frames[0].Stack = []uint64{7} },
		func(s *api.State) { s.Frames[1].Pc = -1 },
		func(s *api.State) { s.Frames[1].Pc = 12 },
		func(s *api.State) { s.Frames[1].Function = 2 },
		func(s *api.State) { s.Frames[1].Function = -1 },
		func(s *api.State) { s.Frames[1].Locals = nil },
		func(s *api.State) { s.Frames[1].Locals[0] = high },
		func(s *api.State) { s.Frames[1].Stack = []uint64{7} },
		func(s *api.State) { s.Frames[1].Stack[0] = high },
	} {
		list = append(list, turned(deep(), change))
	}
	return append(list, api.State{})
}

// overs: states of rich that have ended, with each trap, with none, some and as many results as may be.
func overs() []api.State {
	list := []api.State{ended(halted), turned(ended(halted), func(s *api.State) { s.Results = nil }), turned(ended(halted), func(s *api.State) { s.Results, s.Used = make([]uint64, 8), mostUsed })}
	for trap := int8(trapOp); trap <= trapHost; trap++ {
		list = append(list, turned(ended(trapped), func(s *api.State) { s.Trap = trap }))
	}
	return list
}

// none: bounds that no most can be.
func none() []int {
	return []int{-1, -2, -1000, -mostOf, math.MinInt32, -1 << 32, math.MinInt64, mostOf + 1, mostOf + 2, math.MaxInt32, 1 << 32, 1<<32 + 1, math.MaxInt64}
}

// nothing: is that error answered, and nothing beside it?
func nothing(t *testing.T, m api.Module, script []api.Reply, s api.State, fuel int64, most int, want api.Errno) {
	t.Helper()
	if list, end, e := trace.Of(m, script, s, fuel, most); e != want || len(list) != 0 || !identical(end, api.State{}) {
		t.Fatalf("P26.1: fuel %d, most %d: %d, %s, %s, not %d", fuel, most, e, said(list), show(end), want)
	}
}

// barred: of that error of slow.Run, does ErrArg stand ahead of it, and is it answered of each most that may be?
func barred(t *testing.T, m api.Module, script []api.Reply, s api.State, fuel int64, want api.Errno) {
	t.Helper()
	if _, e := slow.Run(m, script, s, fuel); e != want {
		t.Fatalf("P17.1: %d, not %d", e, want)
	}
	for _, most := range none() {
		nothing(t, m, script, s, fuel, most, api.ErrArg)
	}
	for _, most := range []int{0, 1, 9, mostOf - 1, mostOf} {
		nothing(t, m, script, s, fuel, most, want)
	}
}

// damages: changes of rich by which it may not run, and the errors of that.
func damages() []struct {
	e      api.Errno
	change func(m *api.Module)
} {
	return []struct {
		e      api.Errno
		change func(m *api.Module)
	}{
		{api.ErrType, func(m *api.Module) { m.Types[0].Params = "x" }},
		{api.ErrTwice, func(m *api.Module) { m.Types[1] = m.Types[0] }},
		{api.ErrIndex, func(m *api.Module) { m.Hosts[0] = 9 }},
		{api.ErrRange, func(m *api.Module) { m.Globals[0].Value = high }},
		{api.ErrRange, func(m *api.Module) { m.First = -1 }},
		{api.ErrRange, func(m *api.Module) { m.Most = 65 }},
		{api.ErrIndex, func(m *api.Module) { m.Functions[0].Type = -1 }},
		{api.ErrOp, func(m *api.Module) { m.Functions[1].Code[0].Op = 0xff }},
		{api.ErrName, func(m *api.Module) { m.Exports = []api.Export{{}} }},
		{api.ErrCut, func(m *api.Module) { m.Functions[1].Code = nil }},
		{api.ErrRest, func(m *api.Module) { m.Functions[1].Code = append(m.Functions[1].Code, api.Ins{Op: 0x06}) }},
		{api.ErrElse, func(m *api.Module) { m.Functions[0].Code[3] = api.Ins{Op: 0x05} }},
		{api.ErrStack, func(m *api.Module) { m.Functions[0].Code[0] = api.Ins{Op: 0x01} }},
		{api.ErrIndex, func(m *api.Module) { m.Functions[0].Code[1].A = 2 }},
		{api.ErrMutable, func(m *api.Module) { m.Functions[1].Code[2].A = 1 }},
		{api.ErrDead, func(m *api.Module) { m.Functions[1].Code[0] = api.Ins{Op: 0x00} }},
		{api.ErrLabel, func(m *api.Module) { m.Functions[1].Code[0] = api.Ins{Op: 0x07, A: 9} }},
	}
}

// lows: fuels below 0.
func lows() []int64 {
	return []int64{-1, -2, -1000, math.MinInt32, -1 << 32, math.MinInt64}
}

// fuels: some below 0, and some that are not.
func fuels() []int64 {
	return append(lows(), 0, 1, 100, math.MaxInt64)
}

// TestMostFirst: a most below 0, or above 65536, of a run that has no other fault.
func TestMostFirst(t *testing.T) {
	for _, x := range append(smalls(), segmented()...) {
		for _, most := range none() {
			for _, fuel := range []int64{0, 1, 9} {
				nothing(t, x.m, x.script, x.s, fuel, most, api.ErrArg)
			}
		}
		for _, most := range []int{0, mostOf} {
			if _, _, e := trace.Of(x.m, x.script, x.s, 9, most); e != api.OK {
				t.Errorf("P26.1: most %d: %d", most, e)
			}
		}
	}
}

// TestModule: validate.Module's error stands ahead of those of the state and of the fuel.
func TestModule(t *testing.T) {
	for _, x := range damages() {
		m := rich()
		x.change(&m)
		for _, s := range append(append(overs(), deep(), api.State{}), outs()...) {
			barred(t, m, nil, s, 9, x.e)
			barred(t, m, nil, s, -1, x.e)
		}
	}
}

// TestStates: ErrState of a state that may not be, ahead of ErrFuel and ErrDone.
func TestStates(t *testing.T) {
	list := []small{
		{of(">", "", "nop end"), nil, deep(), 0},
		{rich(), nil, begun(of(">", "", "nop end")), 0},
		{rich(), nil, api.State{End: halted}, 0},
		{api.Module{}, nil, api.State{}, 0},
		{api.Module{}, nil, api.State{End: suspended}, 0},
		{api.Module{}, nil, api.State{End: suspended, Frames: []api.Frame{{}}}, 0},
	}
	for _, s := range outs() {
		list = append(list, small{rich(), []api.Reply{{}, {Trap: true}, {}}, s, 0})
	}
	for _, x := range list {
		for _, fuel := range fuels() {
			barred(t, x.m, x.script, x.s, fuel, api.ErrState)
		}
	}
}

// TestFuelBelow: ErrFuel of a fuel below 0, of what has ended, too.
func TestFuelBelow(t *testing.T) {
	for _, fuel := range lows() {
		for _, s := range append(overs(), deep()) {
			barred(t, rich(), nil, s, fuel, api.ErrFuel)
		}
		for _, x := range append(smalls(), segmented()...) {
			barred(t, x.m, x.script, x.s, fuel, api.ErrFuel)
		}
	}
}

// TestDone: ErrDone of what has ended, with each fuel from 0 on; of what a trace came to at its end, too.
func TestDone(t *testing.T) {
	for _, fuel := range []int64{0, 1, 100, math.MaxInt64} {
		for _, s := range overs() {
			barred(t, rich(), []api.Reply{{}}, s, fuel, api.ErrDone)
		}
		barred(t, api.Module{}, nil, api.State{End: halted}, fuel, api.ErrDone)
		barred(t, api.Module{}, nil, api.State{End: trapped, Trap: trapHost}, fuel, api.ErrDone)
		for _, x := range append(smalls(), segmented()...) {
			if _, s := traced(t, x.m, x.script, x.s, int64(x.steps), 2); s.End != suspended {
				barred(t, x.m, x.script, s, fuel, api.ErrDone)
			}
		}
	}
}

// TestPairs: of two faults at one time, and of more, the one that the chapter names first is told.
func TestPairs(t *testing.T) {
	type call struct {
		m    api.Module
		s    api.State
		fuel int64
		most int
	}
	faults := []struct {
		e   api.Errno
		put func(x *call)
	}{
		{api.ErrArg, func(x *call) { x.most = -1 }},
		{api.ErrStack, func(x *call) { x.m.Functions[0].Code[0] = api.Ins{Op: 0x01} }},
		{api.ErrState, func(x *call) { x.s.Used = -1 }},
		{api.ErrFuel, func(x *call) { x.fuel = -1 }},
		{api.ErrDone, func(x *call) { x.s.Frames, x.s.End, x.s.Trap = nil, trapped, trapOp }},
	}
	for a, first := range faults {
		for _, second := range faults[a:] {
			x := call{rich(), deep(), 9, 9}
			second.put(&x)
			first.put(&x)
			nothing(t, x.m, nil, x.s, x.fuel, x.most, first.e)
		}
	}
	x := call{rich(), deep(), 9, 9}
	for at := range faults {
		fault := faults[len(faults)-1-at]
		fault.put(&x)
		nothing(t, x.m, nil, x.s, x.fuel, x.most, fault.e)
	}
}

// TestDrawnErrors: what may not run, what may not be, what has ended, fuels and bounds that may not be, all of them drawn.
func TestDrawnErrors(t *testing.T) {
	r := rand.New(rand.NewSource(261))
	errs := map[api.Errno]int{}
	for range 2000 {
		m := drawnModule(r)
		s := drawnState(r, m)
		damaged(r, &m, &s)
		fuel, most := int64(r.Intn(30))-3, r.Intn(mostOf+1)
		if r.Intn(9) == 0 {
			most = none()[r.Intn(len(none()))]
		}
		_, want := slow.Run(m, nil, s, fuel)
		if most < 0 || most > mostOf {
			want = api.ErrArg
		}
		errs[want]++
		if want != api.OK {
			nothing(t, m, nil, s, fuel, most, want)
			continue
		}
		list, end := traced(t, m, nil, s, fuel, most)
		events, _ := way(t, m, nil, s, min(int(fuel), most))
		same(t, list, events)
		if end.Used != mostUsed && most >= int(fuel) && end.Used-s.Used != int64(len(list)) {
			t.Fatalf("W4: %d events, Used %d behind %d", len(list), end.Used, s.Used)
		}
	}
	for _, e := range []api.Errno{api.OK, api.ErrArg, api.ErrState, api.ErrFuel, api.ErrDone, api.ErrOp, api.ErrIndex, api.ErrStack, api.ErrCut, api.ErrRange, api.ErrDead} {
		if errs[e] < 5 {
			t.Errorf("the error %d %d times: %v", e, errs[e], errs)
		}
	}
}

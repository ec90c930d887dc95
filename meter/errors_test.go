package meter_test

import (
	"math"
	"slices"
	"testing"

	"flagon/api"
	"flagon/meter"
	"flagon/slow"
)

func turned(s api.State, change func(s *api.State)) api.State {
	s = cloned(s)
	change(&s)
	return s
}

// outs: states of rich that may not be, at least one of each place of chapter 14.
func outs() []api.State {
	var list []api.State
	for _, s := range []api.State{deep(), ended(halted), ended(trapped)} {
		for _, change := range []func(s *api.State){
			func(s *api.State) { s.End = 0 },
			func(s *api.State) { s.End = 4 },
			func(s *api.State) { s.End = -1 },
			func(s *api.State) { s.End = s.End%3 + 1 },
			func(s *api.State) { s.Frames = slices.Repeat([]api.Frame{{Locals: []uint64{0, 0}}}, 65) },
			func(s *api.State) { s.Results = make([]uint64, 9) },
			func(s *api.State) { s.Trap = 7 },
			func(s *api.State) { s.Used = -1 },
			func(s *api.State) { s.Used = mostUsed + 1 },
			func(s *api.State) { s.Replies = -1 },
			func(s *api.State) { s.Globals = nil },
			func(s *api.State) { s.Globals[0] = high },
			func(s *api.State) { s.Globals[1] = 0 },
			func(s *api.State) { s.Pages = nil },
			func(s *api.State) { s.Pages = blank(4) },
			func(s *api.State) { s.Pages[1] = s.Pages[1][1:] },
		} {
			list = append(list, turned(s, change))
		}
	}
	for _, change := range []func(s *api.State){
		func(s *api.State) { s.Frames = nil },
		func(s *api.State) { s.Frames = s.Frames[:1] },
		func(s *api.State) { s.Frames[0].Pc = 2 },
		func(s *api.State) { s.Frames[0].Stack = []uint64{7} },
		func(s *api.State) { s.Frames[1].Pc = -1 },
		func(s *api.State) { s.Frames[1].Pc = 12 },
		func(s *api.State) { s.Frames[1].Function = 2 },
		func(s *api.State) { s.Frames[1].Function = -1 },
		func(s *api.State) { s.Frames[1].Locals = nil },
		func(s *api.State) { s.Frames[1].Locals[0] = high },
		func(s *api.State) { s.Frames[1].Stack = []uint64{7} },
		func(s *api.State) { s.Frames[1].Stack[0] = high },
	} {
		list = append(list, turned(deep(), change))
	}
	return append(list, api.State{})
}

// overs: states of rich that have ended, with each trap, with none, some and as many results as may be.
func overs() []api.State {
	list := []api.State{ended(halted), turned(ended(halted), func(s *api.State) { s.Results = nil }), turned(ended(halted), func(s *api.State) { s.Results, s.Used = make([]uint64, 8), mostUsed })}
	for trap := int8(trapOp); trap <= trapHost; trap++ {
		list = append(list, turned(ended(trapped), func(s *api.State) { s.Trap = trap }))
	}
	return list
}

// below: fuels below 0.
func below() []int64 {
	return []int64{math.MinInt64, math.MinInt64 + 1, math.MinInt32, -1 << 32, -2, -1}
}

// above: fuels from 0 on.
func above() []int64 {
	return []int64{0, 1, 2, 1000, 1 << 31, 1 << 32, 1 << 62, math.MaxInt64}
}

// others: all numbers that are no engine's.
func others() []int8 {
	var list []int8
	for n := math.MinInt8; n <= math.MaxInt8; n++ {
		if engine := int8(n); engine != bySlow && engine != byFast {
			list = append(list, engine)
		}
	}
	return list
}

// nothing: is that error answered, and nothing beside it?
func nothing(t *testing.T, engine int8, m api.Module, script []api.Reply, s api.State, fuel int64, want api.Errno) {
	t.Helper()
	if got, c, e := meter.Run(engine, m, script, s, fuel); e != want || c != (meter.Counts{}) || !identical(got, api.State{}) {
		t.Errorf("P20.1: engine %d, fuel %d: %d, %d, %s, not %d", engine, fuel, e, got.Used, told(c), want)
	}
}

// refused: does either engine refuse each of these fuels with that error, and slow.Run, too? Another engine is refused ahead of that.
func refused(t *testing.T, m api.Module, script []api.Reply, s api.State, want api.Errno, fuels ...int64) {
	t.Helper()
	for _, fuel := range fuels {
		for _, engine := range both() {
			nothing(t, engine, m, script, s, fuel, want)
		}
		for _, engine := range []int8{math.MinInt8, -2, -1, 2, 3, 4, math.MaxInt8} {
			nothing(t, engine, m, script, s, fuel, api.ErrArg)
		}
		if _, e := slow.Run(m, script, s, fuel); e != want {
			t.Errorf("P20.1: fuel %d: slow.Run answers %d, not %d", fuel, e, want)
		}
	}
}

// TestEngines: ErrArg of each number that is no engine's, of runs that either engine makes and of such that none does.
func TestEngines(t *testing.T) {
	bad := rich()
	bad.Types[0].Params = "x"
	for _, engine := range others() {
		for _, fuel := range append(below(), above()...) {
			nothing(t, engine, rich(), nil, deep(), fuel, api.ErrArg)
			nothing(t, engine, rich(), nil, ended(halted), fuel, api.ErrArg)
			nothing(t, engine, rich(), nil, api.State{}, fuel, api.ErrArg)
			nothing(t, engine, bad, nil, deep(), fuel, api.ErrArg)
			nothing(t, engine, api.Module{}, nil, api.State{}, fuel, api.ErrArg)
		}
	}
	if meter.Slow != bySlow || meter.Fast != byFast {
		t.Errorf("P20.1: the engines are %d and %d", meter.Slow, meter.Fast)
	}
}

// TestModuleFirst: validate.Module's error is ahead of all others, whatever the state and the fuel are.
func TestModuleFirst(t *testing.T) {
	for _, x := range []struct {
		e      api.Errno
		change func(m *api.Module)
	}{
		{api.ErrType, func(m *api.Module) { m.Types[0].Params = "x" }},
		{api.ErrTwice, func(m *api.Module) { m.Types[1] = m.Types[0] }},
		{api.ErrIndex, func(m *api.Module) { m.Hosts[0] = 9 }},
		{api.ErrRange, func(m *api.Module) { m.Globals[0].Value = high }},
		{api.ErrRange, func(m *api.Module) { m.First = -1 }},
		{api.ErrRange, func(m *api.Module) { m.Most = 65 }},
		{api.ErrIndex, func(m *api.Module) { m.Functions[0].Type = -1 }},
		{api.ErrOp, func(m *api.Module) { m.Functions[1].Code[0].Op = 0xff }},
		{api.ErrName, func(m *api.Module) { m.Exports = []api.Export{{}} }},
		{api.ErrCut, func(m *api.Module) { m.Functions[1].Code = nil }},
		{api.ErrRest, func(m *api.Module) { m.Functions[1].Code = append(m.Functions[1].Code, api.Ins{Op: 0x06}) }},
		{api.ErrElse, func(m *api.Module) { m.Functions[0].Code[3] = api.Ins{Op: 0x05} }},
		{api.ErrStack, func(m *api.Module) { m.Functions[0].Code[0] = api.Ins{Op: 0x01} }},
		{api.ErrIndex, func(m *api.Module) { m.Functions[0].Code[1].A = 2 }},
		{api.ErrMutable, func(m *api.Module) { m.Functions[1].Code[2].A = 1 }},
		{api.ErrDead, func(m *api.Module) { m.Functions[1].Code[0] = api.Ins{Op: 0x00} }},
		{api.ErrLabel, func(m *api.Module) { m.Functions[1].Code[0] = api.Ins{Op: 0x07, A: 9} }},
	} {
		m := rich()
		x.change(&m)
		for _, s := range append(append(outs(), overs()...), deep()) {
			refused(t, m, nil, s, x.e, append(below(), above()...)...)
		}
	}
}

// TestStates: ErrState of a state that may not be, ahead of ErrFuel and ErrDone.
func TestStates(t *testing.T) {
	for _, s := range outs() {
		for _, script := range [][]api.Reply{nil, {{}, {Trap: true}, {}}} {
			refused(t, rich(), script, s, api.ErrState, append(below(), above()...)...)
		}
	}
	for _, engine := range both() {
		if s, c := ran(t, engine, rich(), nil, deep(), 1); s.Used != 78 || c.Executed != 1 {
			t.Errorf("P20.1: %s of a state that may be", show(s))
		}
	}
}

// TestOthers: a state of one module is none of another one.
func TestOthers(t *testing.T) {
	fuels := append(below(), above()...)
	refused(t, of(">", "", "nop end"), nil, deep(), api.ErrState, fuels...)
	refused(t, rich(), nil, begun(of(">", "", "nop end")), api.ErrState, fuels...)
	refused(t, api.Module{}, nil, begun(of(">", "", "nop end")), api.ErrState, fuels...)
	refused(t, rich(), nil, api.State{End: halted}, api.ErrState, fuels...)
}

// TestFuel: ErrFuel of a fuel below 0, ahead of ErrDone.
func TestFuel(t *testing.T) {
	for _, s := range append(overs(), deep()) {
		refused(t, rich(), []api.Reply{{}}, s, api.ErrFuel, below()...)
	}
	refused(t, api.Module{}, nil, api.State{End: halted}, api.ErrFuel, below()...)
}

// TestDone: ErrDone of what has ended, whatever the fuel is, 0 too.
func TestDone(t *testing.T) {
	for _, s := range overs() {
		refused(t, rich(), []api.Reply{{}}, s, api.ErrDone, above()...)
	}
	refused(t, api.Module{}, nil, api.State{End: halted}, api.ErrDone, above()...)
	refused(t, api.Module{}, nil, api.State{End: trapped, Trap: trapHost}, api.ErrDone, above()...)
}

// TestNoFunction: of a module without functions no state is suspended, so none goes on.
func TestNoFunction(t *testing.T) {
	refused(t, api.Module{}, nil, api.State{End: suspended}, api.ErrState, append(below(), above()...)...)
	refused(t, api.Module{}, nil, api.State{End: suspended, Frames: []api.Frame{{}}}, api.ErrState, append(below(), above()...)...)
}

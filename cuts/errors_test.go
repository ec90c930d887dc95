package cuts_test

import (
	"math"
	"slices"
	"testing"

	"flagon/api"
	"flagon/cuts"
	"flagon/slow"
)

func turned(s api.State, change func(s *api.State)) api.State {
	s = cloned(s)
	change(&s)
	return s
}

// outs: states of rich that may not be, at least one of each place of chapter 14.
func outs() []api.State {
	var list []api.State
	for _, s := range []api.State{deep(), ended(halted), ended(trapped)} {
		for _, change := range []func(s *api.State){
			func(s *api.State) { s.End = 0 },
			func(s *api.State) { s.End = 4 },
			func(s *api.State) { s.End = -1 },
			func(s *api.State) { s.End = s.End%3 + 1 },
			func(s *api.State) { s.Frames = slices.Repeat([]api.Frame{{Locals: []uint64{0, 0}}}, 65) },
			func(s *api.State) { s.Results = make([]uint64, 9) },
			func(s *api.State) { s.Trap = 7 },
			func(s *api.State) { s.Used = -1 },
			func(s *api.State) { s.Used = math.MinInt64 },
			func(s *api.State) { s.Used = mostUsed + 1 },
			func(s *api.State) { s.Used = math.MaxInt64 },
			func(s *api.State) { s.Replies = -1 },
			func(s *api.State) { s.Globals = nil },
			func(s *api.State) { s.Globals[0] = high },
			func(s *api.State) { s.Globals[1] = 0 },
			func(s *api.State) { s.Pages = nil },
			func(s *api.State) { s.Pages = blank(4) },
			func(s *api.State) { s.Pages[1] = s.Pages[1][1:] },
		} {
			list = append(list, turned(s, change))
		}
	}
	for _, change := range []func(s *api.State){
		func(s *api.State) { s.Frames = nil },
		func(s *api.State) { s.Frames = s.Frames[:1] },
		func(s *api.State) { s.Frames[0].Pc = 2 },
		func(s *api.State) { s.Frames[0].Stack = []uint64{7} },
		func(s *api.State) { s.Frames[1].Pc = -1 },
		func(s *api.State) { s.Frames[1].Pc = 12 },
		func(s *api.State) { s.Frames[1].Function = 2 },
		func(s *api.State) { s.Frames[1].Function = -1 },
		func(s *api.State) { s.Frames[1].Locals = nil },
		func(s *api.State) { s.Frames[1].Locals[0] = high },
		func(s *api.State) { s.Frames[1].Stack = []uint64{7} },
		func(s *api.State) { s.Frames[1].Stack[0] = high },
	} {
		list = append(list, turned(deep(), change))
	}
	return append(list, api.State{})
}

// overs: states of rich that have ended, with each trap, with none, some and as many results as may be.
func overs() []api.State {
	list := []api.State{ended(halted), turned(ended(halted), func(s *api.State) { s.Results = nil }), turned(ended(halted), func(s *api.State) { s.Results, s.Used = make([]uint64, 8), mostUsed })}
	for trap := int8(trapOp); trap <= trapHost; trap++ {
		list = append(list, turned(ended(trapped), func(s *api.State) { s.Trap = trap }))
	}
	return list
}

// below: fuels below 0.
func below() []int64 {
	return []int64{math.MinInt64, math.MinInt64 + 1, math.MinInt32, -1 << 32, -2, -1}
}

// others: all numbers that are no engine's.
func others() []int8 {
	var list []int8
	for n := math.MinInt8; n <= math.MaxInt8; n++ {
		if engine := int8(n); engine != bySlow && engine != byFast {
			list = append(list, engine)
		}
	}
	return list
}

// sound: plans of which nothing is wrong.
func sound() [][]cuts.Slice {
	return [][]cuts.Slice{nil, plan("0s"), plan("1f!"), plan("9s 0f 9223372036854775807f!"), plan("1s*1000")}
}

// lean: plans of which a fuel is below 0: in the first slice, in one between, in the last one; in one that would never be run.
func lean() [][]cuts.Slice {
	var list [][]cuts.Slice
	for _, fuel := range below() {
		for count := 1; count <= 4; count++ {
			for at := range count {
				along := plan("0s 1f! 2s! 3f")[:count]
				along[at].Fuel = fuel
				list = append(list, along)
			}
		}
		long := plan("9223372036854775807f!*1000")
		long[999].Fuel = fuel
		list = append(list, long)
	}
	return append(list, plan("-1s*1000"), plan("-1s 5f -2f!"))
}

// wild: plans of which an engine is none, in the first slice, in one between, in the last one, and in one that would never be run; or which have too many slices; some with a fuel below 0, too.
func wild() [][]cuts.Slice {
	var list [][]cuts.Slice
	for _, engine := range others() {
		for at := range 4 {
			along := plan("0s 1f! 2s! 3f")
			along[at].Engine = engine
			list = append(list, along)
		}
		list = append(list, []cuts.Slice{{Engine: engine}}, []cuts.Slice{{Fuel: math.MaxInt64}, {Engine: engine, Fuel: 9}}, []cuts.Slice{{Fuel: -1}, {Engine: engine}}, []cuts.Slice{{Fuel: -1, Engine: engine, Save: true}})
	}
	for _, engine := range []int8{math.MinInt8, -1, 2, math.MaxInt8} {
		long := plan("1s*1000")
		long[999].Engine = engine
		list = append(list, long, append(long, long...))
	}
	return append(list, plan("0s*1001"), plan("1f!*1001"), plan("-1s*1001"), plan("9223372036854775807s*5000"))
}

// nothing: is that error answered, and nothing beside it?
func nothing(t *testing.T, m api.Module, script []api.Reply, s api.State, along []cuts.Slice, want api.Errno) {
	t.Helper()
	if got, made, e := cuts.Run(m, script, s, along); e != want || len(made) != 0 || !identical(got, api.State{}) {
		t.Fatalf("P24.1: plan %.200v: %d, Used %d, %.200v, not %d", along, e, got.Used, made, want)
	}
}

// refused: is each of these plans refused with that error?
func refused(t *testing.T, m api.Module, script []api.Reply, s api.State, want api.Errno, plans ...[]cuts.Slice) {
	t.Helper()
	for _, along := range plans {
		nothing(t, m, script, s, along, want)
	}
}

// barred: does the error of slow.Run with the fuel 0 stand ahead of that of a fuel below 0, and behind that of the plan itself?
func barred(t *testing.T, m api.Module, script []api.Reply, s api.State, want api.Errno) {
	t.Helper()
	if _, e := slow.Run(m, script, s, 0); e != want {
		t.Fatalf("P17.1: %d, not %d", e, want)
	}
	refused(t, m, script, s, want, sound()...)
	refused(t, m, script, s, want, lean()...)
	refused(t, m, script, s, api.ErrArg, wild()[:40]...)
	refused(t, m, script, s, api.ErrArg, plan("-1s*1001"), plan("1f*1001"))
}

// damages: changes of rich by which it may not run, and the errors of that.
func damages() []struct {
	e      api.Errno
	change func(m *api.Module)
} {
	return []struct {
		e      api.Errno
		change func(m *api.Module)
	}{
		{api.ErrType, func(m *api.Module) { m.Types[0].Params = "x" }},
		{api.ErrTwice, func(m *api.Module) { m.Types[1] = m.Types[0] }},
		{api.ErrIndex, func(m *api.Module) { m.Hosts[0] = 9 }},
		{api.ErrRange, func(m *api.Module) { m.Globals[0].Value = high }},
		{api.ErrRange, func(m *api.Module) { m.First = -1 }},
		{api.ErrRange, func(m *api.Module) { m.Most = 65 }},
		{api.ErrIndex, func(m *api.Module) { m.Functions[0].Type = -1 }},
		{api.ErrOp, func(m *api.Module) { m.Functions[1].Code[0].Op = 0xff }},
		{api.ErrName, func(m *api.Module) { m.Exports = []api.Export{{}} }},
		{api.ErrCut, func(m *api.Module) { m.Functions[1].Code = nil }},
		{api.ErrRest, func(m *api.Module) { m.Functions[1].Code = append(m.Functions[1].Code, api.Ins{Op: 0x06}) }},
		{api.ErrElse, func(m *api.Module) { m.Functions[0].Code[3] = api.Ins{Op: 0x05} }},
		{api.ErrStack, func(m *api.Module) { m.Functions[0].Code[0] = api.Ins{Op: 0x01} }},
		{api.ErrIndex, func(m *api.Module) { m.Functions[0].Code[1].A = 2 }},
		{api.ErrMutable, func(m *api.Module) { m.Functions[1].Code[2].A = 1 }},
		{api.ErrDead, func(m *api.Module) { m.Functions[1].Code[0] = api.Ins{Op: 0x00} }},
		{api.ErrLabel, func(m *api.Module) { m.Functions[1].Code[0] = api.Ins{Op: 0x07, A: 9} }},
	}
}

// TestPlans: ErrArg of what is wrong with a plan, whatever else is wrong.
func TestPlans(t *testing.T) {
	bad := rich()
	bad.Types[0].Params = "x"
	for _, x := range []small{{m: rich(), s: deep()}, {m: rich(), s: ended(halted)}, {m: rich(), s: ended(trapped)}, {m: rich()}, {m: bad, s: deep()}, {m: bad}, {}, {m: five(), s: begun(five())}} {
		refused(t, x.m, nil, x.s, api.ErrArg, wild()...)
	}
}

// TestModuleFirst: validate.Module's error stands ahead of those of the state and of the fuels, behind that of the plan.
func TestModuleFirst(t *testing.T) {
	t.Parallel()
	for _, x := range damages() {
		m := rich()
		x.change(&m)
		for at, s := range append(append(overs(), deep(), api.State{}), outs()...) {
			if at < 12 || at%7 == 0 {
				barred(t, m, nil, s, x.e)
			}
		}
	}
}

// TestStates: ErrState of a state that may not be, ahead of ErrDone and ErrFuel.
func TestStates(t *testing.T) {
	t.Parallel()
	for _, s := range outs() {
		barred(t, rich(), []api.Reply{{}, {Trap: true}, {}}, s, api.ErrState)
	}
	barred(t, of(">", "", "nop end"), nil, deep(), api.ErrState)
	barred(t, rich(), nil, begun(of(">", "", "nop end")), api.ErrState)
	barred(t, rich(), nil, api.State{End: halted}, api.ErrState)
	barred(t, api.Module{}, nil, api.State{}, api.ErrState)
	barred(t, api.Module{}, nil, api.State{End: suspended}, api.ErrState)
	barred(t, api.Module{}, nil, api.State{End: suspended, Frames: []api.Frame{{}}}, api.ErrState)
}

// TestDone: ErrDone of what has ended, ahead of ErrFuel: slow.Run is asked with the fuel 0. Also of no slices.
func TestDone(t *testing.T) {
	t.Parallel()
	for _, s := range overs() {
		barred(t, rich(), []api.Reply{{}}, s, api.ErrDone)
	}
	barred(t, api.Module{}, nil, api.State{End: halted}, api.ErrDone)
	barred(t, api.Module{}, nil, api.State{End: trapped, Trap: trapHost}, api.ErrDone)
	for _, x := range smalls() {
		got, made := ran(t, x.m, x.script, x.s, plan("70s 70f"))
		if got.End != suspended && (len(made) != 1 || made[0] != int64(x.steps)) {
			t.Errorf("P24.1: %s: %v", show(got), made)
		}
		if got.End != suspended {
			barred(t, x.m, x.script, got, api.ErrDone)
		}
	}
}

// TestFuel: ErrFuel of a fuel below 0, wherever it stands, of what could be run else.
func TestFuel(t *testing.T) {
	for _, x := range smalls() {
		refused(t, x.m, x.script, x.s, api.ErrFuel, lean()...)
	}
	if got, made := ran(t, rich(), nil, deep(), plan("0s 1f! 2s! 3f")); got.Used != 77+6 || told(made) != "0 1 2 3" {
		t.Errorf("P24.1: %s, %v", show(got), made)
	}
}

// TestPairs: of two faults at one time the one that the chapter names first is told.
func TestPairs(t *testing.T) {
	type call struct {
		m     api.Module
		s     api.State
		along []cuts.Slice
	}
	faults := []struct {
		e   api.Errno
		put func(x *call)
	}{
		{api.ErrArg, func(x *call) { x.along = append(x.along, make([]cuts.Slice, mostSlices)...) }},
		{api.ErrArg, func(x *call) { x.along[2].Engine = 2 }},
		{api.ErrStack, func(x *call) { x.m.Functions[0].Code[0] = api.Ins{Op: 0x01} }},
		{api.ErrState, func(x *call) { x.s.Used = -1 }},
		{api.ErrDone, func(x *call) { x.s.Frames, x.s.End, x.s.Trap = nil, trapped, trapOp }},
		{api.ErrFuel, func(x *call) { x.along[1].Fuel = -1 }},
	}
	for a, first := range faults {
		for _, second := range faults[a:] {
			x := call{rich(), deep(), plan("1s 2f! 3s")}
			second.put(&x)
			first.put(&x)
			nothing(t, x.m, nil, x.s, x.along, first.e)
		}
	}
	x := call{rich(), deep(), plan("1s 2f! 3s")}
	for at := range faults {
		fault := faults[len(faults)-1-at]
		fault.put(&x)
		nothing(t, x.m, nil, x.s, x.along, fault.e)
	}
}

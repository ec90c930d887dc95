package profile_test

import (
	"math"
	"math/rand"
	"slices"
	"testing"

	"flagon/api"
	"flagon/profile"
	"flagon/slow"
	"flagon/validate"
)

func turned(s api.State, change func(s *api.State)) api.State {
	s = cloned(s)
	change(&s)
	return s
}

// outs: states of rich that may not be, at least one of each place of chapter 14.
func outs() []api.State {
	var list []api.State
	for _, s := range []api.State{deep(), ended(halted), ended(trapped)} {
		for _, change := range []func(s *api.State){
			func(s *api.State) { s.End = 0 },
			func(s *api.State) { s.End = 4 },
			func(s *api.State) { s.End = -1 },
			func(s *api.State) { s.End = s.End%3 + 1 },
			func(s *api.State) { s.Frames = slices.Repeat([]api.Frame{{Locals: []uint64{0, 0}}}, 65) },
			func(s *api.State) { s.Results = make([]uint64, 9) },
			func(s *api.State) { s.Trap = 7 },
			func(s *api.State) { s.Used = -1 },
			func(s *api.State) { s.Used = math.MinInt64 },
			func(s *api.State) { s.Used = mostUsed + 1 },
			func(s *api.State) { s.Used = math.MaxInt64 },
			func(s *api.State) { s.Replies = -1 },
			func(s *api.State) { s.Globals = nil },
			func(s *api.State) { s.Globals[0] = high },
			func(s *api.State) { s.Globals[1] = 0 },
			func(s *api.State) { s.Pages = nil },
			func(s *api.State) { s.Pages = blank(4) },
			func(s *api.State) { s.Pages[1] = s.Pages[1][1:] },
		} {
			list = append(list, turned(s, change))
		}
	}
	for _, change := range []func(s *api.State){
		func(s *api.State) { s.Frames = nil },
		func(s *api.State) { s.Frames = s.Frames[:1] },
		func(s *api.State) { s.Frames[0].Pc = 2 },
		func(s *api.State) { s.Frames[0].Stack = []uint64{7} },
		func(s *api.State) { s.Frames[1].Pc = -1 },
		func(s *api.State) { s.Frames[1].Pc = 12 },
		func(s *api.State) { s.Frames[1].Function = 2 },
		func(s *api.State) { s.Frames[1].Function = -1 },
		func(s *api.State) { s.Frames[1].Locals = nil },
		func(s *api.State) { s.Frames[1].Locals[0] = high },
		func(s *api.State) { s.Frames[1].Stack = []uint64{7} },
		func(s *api.State) { s.Frames[1].Stack[0] = high },
	} {
		list = append(list, turned(deep(), change))
	}
	return append(list, api.State{})
}

// overs: states of rich that have ended, with each trap, with none, some and as many results as may be.
func overs() []api.State {
	list := []api.State{ended(halted), turned(ended(halted), func(s *api.State) { s.Results = nil }), turned(ended(halted), func(s *api.State) { s.Results, s.Used = make([]uint64, 8), mostUsed })}
	for trap := int8(trapOp); trap <= trapHost; trap++ {
		list = append(list, turned(ended(trapped), func(s *api.State) { s.Trap = trap }))
	}
	return list
}

// nothing: is that error answered, and nothing beside it? It is slow.Run's.
func nothing(t *testing.T, x small, fuel int64, want api.Errno) {
	t.Helper()
	if _, e := slow.Run(x.m, x.script, x.s, fuel); e != want {
		t.Fatalf("P17.1: %d, not %d", e, want)
	}
	if counts, end, e := profile.Counts(x.m, x.script, x.s, fuel); e != want || len(counts) != 0 || !identical(end, api.State{}) {
		t.Fatalf("P27.1: fuel %d: %d, %s, %s, not %d", fuel, e, saidCounts(counts), show(end), want)
	}
}

// refused: do Lines and Ops answer that error, and nothing beside it?
func refused(t *testing.T, m api.Module, counts [][]int64, want api.Errno) {
	t.Helper()
	if lines, e := profile.Lines(m, counts); e != want || len(lines) != 0 {
		t.Fatalf("P27.2: %s: %d, %s, not %d", saidCounts(counts), e, saidLines(lines), want)
	}
	if ops, e := profile.Ops(m, counts); e != want || len(ops) != 0 {
		t.Fatalf("P27.3: %s: %d, %s, not %d", saidCounts(counts), e, saidOps(ops), want)
	}
}

// damages: changes of rich by which it may not run, and the errors of that.
func damages() []struct {
	e      api.Errno
	change func(m *api.Module)
} {
	return []struct {
		e      api.Errno
		change func(m *api.Module)
	}{
		{api.ErrType, func(m *api.Module) { m.Types[0].Params = "x" }},
		{api.ErrTwice, func(m *api.Module) { m.Types[1] = m.Types[0] }},
		{api.ErrIndex, func(m *api.Module) { m.Hosts[0] = 9 }},
		{api.ErrRange, func(m *api.Module) { m.Globals[0].Value = high }},
		{api.ErrRange, func(m *api.Module) { m.First = -1 }},
		{api.ErrRange, func(m *api.Module) { m.Most = 65 }},
		{api.ErrIndex, func(m *api.Module) { m.Functions[0].Type = -1 }},
		{api.ErrOp, func(m *api.Module) { m.Functions[1].Code[0].Op = 0xff }},
		{api.ErrName, func(m *api.Module) { m.Exports = []api.Export{{}} }},
		{api.ErrCut, func(m *api.Module) { m.Functions[1].Code = nil }},
		{api.ErrRest, func(m *api.Module) { m.Functions[1].Code = append(m.Functions[1].Code, api.Ins{Op: 0x06}) }},
		{api.ErrElse, func(m *api.Module) { m.Functions[0].Code[3] = api.Ins{Op: 0x05} }},
		{api.ErrStack, func(m *api.Module) { m.Functions[0].Code[0] = api.Ins{Op: 0x01} }},
		{api.ErrIndex, func(m *api.Module) { m.Functions[0].Code[1].A = 2 }},
		{api.ErrMutable, func(m *api.Module) { m.Functions[1].Code[2].A = 1 }},
		{api.ErrDead, func(m *api.Module) { m.Functions[1].Code[0] = api.Ins{Op: 0x00} }},
		{api.ErrLabel, func(m *api.Module) { m.Functions[1].Code[0] = api.Ins{Op: 0x07, A: 9} }},
	}
}

// lows: fuels below 0.
func lows() []int64 {
	return []int64{-1, -2, -1000, math.MinInt32, -1 << 32, math.MinInt64}
}

// fuels: some below 0, and some that are not.
func fuels() []int64 {
	return append(lows(), 0, 1, 100, mostUsed, mostUsed+1, math.MaxInt64)
}

// TestModule: validate.Module's error stands ahead of those of the state and of the fuel, and of what may not be counts.
func TestModule(t *testing.T) {
	for _, x := range damages() {
		m := rich()
		x.change(&m)
		for _, s := range append(append(overs(), deep(), api.State{}), outs()...) {
			for _, fuel := range fuels() {
				nothing(t, small{m, nil, s, 0}, fuel, x.e)
			}
		}
		refused(t, m, nones(m), x.e)
		refused(t, m, nones(rich()), x.e)
		for _, counts := range strange() {
			refused(t, m, counts, x.e)
		}
	}
}

// TestStates: ErrState of a state that may not be, ahead of ErrFuel and ErrDone; of a module without functions no state goes on.
func TestStates(t *testing.T) {
	list := []small{
		{of(">", "", "nop end"), nil, deep(), 0},
		{rich(), nil, begun(of(">", "", "nop end")), 0},
		{rich(), nil, api.State{End: halted}, 0},
		{api.Module{}, nil, api.State{}, 0},
		{api.Module{}, nil, api.State{End: suspended}, 0},
		{api.Module{}, nil, api.State{End: suspended, Frames: []api.Frame{{}}}, 0},
	}
	for _, s := range outs() {
		list = append(list, small{rich(), []api.Reply{{}, {Trap: true}, {}}, s, 0})
	}
	for _, x := range list {
		for _, fuel := range fuels() {
			nothing(t, x, fuel, api.ErrState)
		}
	}
}

// TestFuelBelow: ErrFuel of a fuel below 0, of what has ended, too.
func TestFuelBelow(t *testing.T) {
	for _, fuel := range lows() {
		for _, s := range append(overs(), deep()) {
			nothing(t, small{rich(), nil, s, 0}, fuel, api.ErrFuel)
		}
		for _, x := range append(smalls(), segmented()...) {
			nothing(t, x, fuel, api.ErrFuel)
		}
		nothing(t, small{api.Module{}, nil, api.State{End: halted}, 0}, fuel, api.ErrFuel)
	}
}

// TestDone: ErrDone of what has ended, with each fuel from 0 on; of what a run came to at its end, too.
func TestDone(t *testing.T) {
	for _, fuel := range []int64{0, 1, 100, mostUsed, mostUsed + 1, math.MaxInt64} {
		for _, s := range overs() {
			nothing(t, small{rich(), []api.Reply{{}}, s, 0}, fuel, api.ErrDone)
		}
		nothing(t, small{api.Module{}, nil, api.State{End: halted}, 0}, fuel, api.ErrDone)
		nothing(t, small{api.Module{}, nil, api.State{End: trapped, Trap: trapHost}, 0}, fuel, api.ErrDone)
		for _, x := range append(smalls(), segmented()...) {
			if _, s := counted(t, x, int64(x.steps)); s.End != suspended {
				nothing(t, small{x.m, x.script, s, 0}, fuel, api.ErrDone)
			}
		}
	}
}

// TestPairs: of two faults at one time, and of more, the one that the chapters name first is told.
func TestPairs(t *testing.T) {
	type call struct {
		m    api.Module
		s    api.State
		fuel int64
	}
	faults := []struct {
		e   api.Errno
		put func(x *call)
	}{
		{api.ErrStack, func(x *call) { x.m.Functions[0].Code[0] = api.Ins{Op: 0x01} }},
		{api.ErrState, func(x *call) { x.s.Used = -1 }},
		{api.ErrFuel, func(x *call) { x.fuel = -1 }},
		{api.ErrDone, func(x *call) { x.s.Frames, x.s.End, x.s.Trap = nil, trapped, trapOp }},
	}
	for a, first := range faults {
		for _, second := range faults[a:] {
			x := call{rich(), deep(), 9}
			second.put(&x)
			first.put(&x)
			nothing(t, small{x.m, nil, x.s, 0}, x.fuel, first.e)
		}
	}
	x := call{rich(), deep(), 9}
	for at := range faults {
		fault := faults[len(faults)-1-at]
		fault.put(&x)
		nothing(t, small{x.m, nil, x.s, 0}, x.fuel, fault.e)
	}
}

// strange: counts that rich has not.
func strange() [][][]int64 {
	var list [][][]int64
	change := func(change func(counts [][]int64) [][]int64) {
		list = append(list, change(nones(rich())))
	}
	list = append(list, nil, [][]int64{}, [][]int64{nil}, [][]int64{nil, nil}, [][]int64{{}, {}}, [][]int64{nil, nil, nil})
	change(func(counts [][]int64) [][]int64 { return counts[:1] })
	change(func(counts [][]int64) [][]int64 { return counts[1:] })
	change(func(counts [][]int64) [][]int64 { return append(counts, nil) })
	change(func(counts [][]int64) [][]int64 { return append(counts, []int64{}) })
	change(func(counts [][]int64) [][]int64 { return append(counts, []int64{0}) })
	change(func(counts [][]int64) [][]int64 { return append(counts, counts[1]) })
	change(func(counts [][]int64) [][]int64 { return append([][]int64{nil}, counts...) })
	change(func(counts [][]int64) [][]int64 { return [][]int64{counts[1], counts[0]} })
	change(func(counts [][]int64) [][]int64 { return [][]int64{append(counts[0], counts[1]...)} })
	for function, at := range []int{9, 13} { // as many numbers as each has
		for _, wrong := range [][]int64{nil, {}, make([]int64, 1), make([]int64, at-1), make([]int64, at+1), make([]int64, 2*at), make([]int64, 2048)} {
			change(func(counts [][]int64) [][]int64 {
				counts[function] = wrong
				return counts
			})
		}
		for pc := range at {
			for _, n := range []int64{-1, -2, math.MinInt32, -1 << 32, math.MinInt64} {
				change(func(counts [][]int64) [][]int64 {
					counts[function][pc] = n
					return counts
				})
				change(func(counts [][]int64) [][]int64 { // a number above 0 beside it mends nothing
					counts[function][(pc+1)%at], counts[function][pc] = math.MaxInt64, n
					return counts
				})
			}
		}
	}
	return list
}

// TestCountsOf: ErrArg of counts that are not of the module: lists and numbers too few and too many, numbers below 0.
func TestCountsOf(t *testing.T) {
	for _, counts := range strange() {
		refused(t, rich(), counts, api.ErrArg)
	}
	for _, counts := range [][][]int64{{nil}, {{}}, {{0}}, {{1, 2}}, {nil, nil}} {
		refused(t, api.Module{}, counts, api.ErrArg)
	}
	for _, counts := range [][][]int64{nil, {}, {nil}, {{}}, {{1}}, {{1, 2, 3}}, {{1, -1}}, {{-1, 1}}, {{1, 2}, nil}, {nil, {1, 2}}, {{1, 2}, {1, 2}}} {
		refused(t, of(">w", "", "w.const:5 end"), counts, api.ErrArg)
	}
	says(t, rich(), nones(rich()), "", "")
	for _, x := range append(smalls(), segmented()...) { // what was counted of a module that has one function more, or one instruction more
		counts, _ := counted(t, x, int64(x.steps))
		other := x.m
		other.Functions = append(slices.Clone(x.m.Functions), x.m.Functions[0])
		refused(t, other, counts, api.ErrArg)
		other.Functions = slices.Clone(x.m.Functions)
		other.Functions[0].Code = append([]api.Ins{{Op: 0x01}}, x.m.Functions[0].Code...)
		refused(t, other, counts, api.ErrArg)
	}
}

// TestDrawnErrors: what may not run, what may not be, what has ended, fuels that may not be, all of them drawn; and counts with a damage.
func TestDrawnErrors(t *testing.T) {
	t.Parallel()
	r := rand.New(rand.NewSource(272))
	errs, numbers := map[api.Errno]int{}, map[api.Errno]int{}
	for range 2000 {
		m := drawnModule(r)
		s := drawnState(r, m)
		counts := drawnCounts(r, m)
		damaged(r, &m, &s)
		fuel := int64(r.Intn(30)) - 3
		x := small{m, nil, s, 0}
		_, want := slow.Run(m, nil, s, fuel)
		errs[want]++
		if want != api.OK {
			nothing(t, x, fuel, want)
		} else if got, _ := counted(t, x, fuel); !sameCounts(got, way(t, x, int(fuel))) {
			t.Fatalf("P27.1: %s", saidCounts(got))
		}
		want = wantRefusal(m, counts)
		numbers[want]++
		if want != api.OK {
			refused(t, m, counts, want)
		} else {
			holds(t, m, counts)
		}
	}
	for _, e := range []api.Errno{api.OK, api.ErrState, api.ErrFuel, api.ErrDone, api.ErrOp, api.ErrIndex, api.ErrStack, api.ErrCut, api.ErrRange, api.ErrDead} {
		if errs[e] < 5 {
			t.Errorf("the error %d %d times: %v", e, errs[e], errs)
		}
	}
	if numbers[api.OK] < 500 || numbers[api.ErrStack] < 5 {
		t.Errorf("of counts: %v", numbers)
	}
}

// wantRefusal: the error of Lines and Ops.
func wantRefusal(m api.Module, counts [][]int64) api.Errno {
	if _, e, _, _ := validate.Module(m); e != api.OK {
		return e
	}
	if !slices.EqualFunc(counts, m.Functions, func(list []int64, f api.Function) bool {
		return len(list) == len(f.Code) && !slices.ContainsFunc(list, func(n int64) bool { return n < 0 })
	}) {
		return api.ErrArg
	}
	return api.OK
}

// TestDrawnStrange: drawn counts of drawn modules, with one thing of them put wrong.
func TestDrawnStrange(t *testing.T) {
	t.Parallel()
	r := rand.New(rand.NewSource(273))
	for range 500 {
		m := drawnModule(r)
		for range 5 {
			counts := drawnCounts(r, m)
			list := &counts[r.Intn(len(counts))]
			switch r.Intn(6) {
			case 0:
				counts = counts[:len(counts)-1]
			case 1:
				counts = append(counts, *list)
			case 2:
				*list = (*list)[:len(*list)-1]
			case 3:
				*list = append(*list, int64(r.Intn(3)))
			case 4:
				(*list)[r.Intn(len(*list))] = -1 - r.Int63()
			default:
				*list = nil
			}
			refused(t, m, counts, api.ErrArg)
		}
	}
}

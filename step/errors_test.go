package step_test

import (
	"math"
	"slices"
	"testing"

	"flagon/api"
	"flagon/step"
)

// rich is a module of two functions, with a host, globals of each kind and a memory.
func rich() api.Module {
	m := api.Module{First: 1, Most: 3, Globals: []api.Global{{Letter: 'w', Mutable: true, Value: 5}, {Letter: 'l', Value: math.MaxUint64}, {Letter: 'l', Mutable: true, Value: 9}}}
	m.Hosts = []int{kind(&m, "w>l"), kind(&m, ">")}
	put(&m, "w>wl", "l", "get:0 call:1 host:0 set:1 get:0 w.const:1 w.add get:1 end")
	put(&m, "w>w", "", "get:0 gget:2 gset:2 gset:0 w.const:16 l.const:-2 l.store:4 w.const:1 grow drop host:1 gget:0 end")
	return m
}

// deep is a state of rich in which function 0 has called function 1.
func deep() api.State {
	return api.State{
		Frames:  []api.Frame{{Pc: 1, Locals: []uint64{3, 4}}, {Function: 1, Pc: 2, Locals: []uint64{7}, Stack: []uint64{7, 8}}},
		Globals: []uint64{high - 1, math.MaxUint64, 1 << 63},
		Pages:   blank(2),
		Replies: 2,
		End:     suspended,
		Used:    77,
	}
}

// ended is a state of rich that has ended so.
func ended(end int8) api.State {
	s := deep()
	s.Frames, s.End = nil, end
	if end == trapped {
		s.Trap = trapMemory
	} else {
		s.Results = []uint64{math.MaxUint64, 0}
	}
	return s
}

func turned(s api.State, change func(s *api.State)) api.State {
	s = cloned(s)
	change(&s)
	return s
}

// outs: states of rich that may not be, at least one of each place of chapter 14.
func outs() []api.State {
	var list []api.State
	for _, s := range []api.State{deep(), ended(halted), ended(trapped)} {
		for _, change := range []func(s *api.State){
			func(s *api.State) { s.End = 0 },
			func(s *api.State) { s.End = 4 },
			func(s *api.State) { s.End = s.End%3 + 1 },
			func(s *api.State) { s.Frames = slices.Repeat([]api.Frame{{Locals: []uint64{0, 0}}}, 65) },
			func(s *api.State) { s.Results = make([]uint64, 9) },
			func(s *api.State) { s.Trap = 7 },
			func(s *api.State) { s.Used = -1 },
			func(s *api.State) { s.Used = mostUsed + 1 },
			func(s *api.State) { s.Replies = -1 },
			func(s *api.State) { s.Globals = nil },
			func(s *api.State) { s.Globals[0] = high },
			func(s *api.State) { s.Globals[1] = 0 },
			func(s *api.State) { s.Pages = nil },
			func(s *api.State) { s.Pages = blank(4) },
			func(s *api.State) { s.Pages[1] = s.Pages[1][1:] },
		} {
			list = append(list, turned(s, change))
		}
	}
	for _, change := range []func(s *api.State){
		func(s *api.State) { s.Frames = nil },
		func(s *api.State) { s.Frames = s.Frames[:1] },
		func(s *api.State) { s.Frames[0].Pc = 2 },
		func(s *api.State) { s.Frames[0].Stack = []uint64{7} },
		func(s *api.State) { s.Frames[1].Pc = -1 },
		func(s *api.State) { s.Frames[1].Pc = 12 },
		func(s *api.State) { s.Frames[1].Function = 2 },
		func(s *api.State) { s.Frames[1].Function = -1 },
		func(s *api.State) { s.Frames[1].Locals = nil },
		func(s *api.State) { s.Frames[1].Locals[0] = high },
		func(s *api.State) { s.Frames[1].Stack = []uint64{7} },
		func(s *api.State) { s.Frames[1].Stack[0] = high },
	} {
		list = append(list, turned(deep(), change))
	}
	return append(list, api.State{})
}

// counts: numbers of steps, below 0 and from 0 on.
func counts() []int {
	return []int{math.MinInt, math.MinInt32, -2, -1, 0, 1, 2, 1000}
}

// refused: does each call answer its error, and nothing beside it? Of Steps by the number of steps.
func refused(t *testing.T, m api.Module, script []api.Reply, s api.State, one api.Errno, many func(n int) api.Errno) {
	t.Helper()
	if got, e := step.Step(m, script, s); e != one || !identical(got, api.State{}) {
		t.Errorf("P16.1: %d, %s, not %d", e, show(got), one)
	}
	if function, pc, e := step.Next(m, s); e != one || function != 0 || pc != 0 {
		t.Errorf("P16.3: %d, %d, %d, not %d", function, pc, e, one)
	}
	for _, n := range counts() {
		want := many(n)
		got, e := step.Steps(m, script, s, n)
		if e != want || e != api.OK && !identical(got, api.State{}) {
			t.Errorf("P16.2: %d steps: %d, %s, not %d", n, e, show(got), want)
		}
		if e == api.OK && !identical(got, s) {
			t.Errorf("P16.2: %d steps: %s, not %s", n, show(got), show(s))
		}
	}
}

// TestModuleFirst: validate.Module's error is ahead of all others, whatever the state and the number of steps are.
func TestModuleFirst(t *testing.T) {
	for _, x := range []struct {
		e      api.Errno
		change func(m *api.Module)
	}{
		{api.ErrType, func(m *api.Module) { m.Types[0].Params = "x" }},
		{api.ErrTwice, func(m *api.Module) { m.Types[1] = m.Types[0] }},
		{api.ErrIndex, func(m *api.Module) { m.Hosts[0] = 9 }},
		{api.ErrRange, func(m *api.Module) { m.Globals[0].Value = high }},
		{api.ErrRange, func(m *api.Module) { m.First = -1 }},
		{api.ErrRange, func(m *api.Module) { m.Most = 65 }},
		{api.ErrIndex, func(m *api.Module) { m.Functions[0].Type = -1 }},
		{api.ErrOp, func(m *api.Module) { m.Functions[1].Code[0].Op = 0xff }},
		{api.ErrName, func(m *api.Module) { m.Exports = []api.Export{{}} }},
		{api.ErrCut, func(m *api.Module) { m.Functions[1].Code = nil }},
		{api.ErrRest, func(m *api.Module) { m.Functions[1].Code = append(m.Functions[1].Code, api.Ins{Op: 0x06}) }},
		{api.ErrElse, func(m *api.Module) { m.Functions[0].Code[3] = api.Ins{Op: 0x05} }},
		{api.ErrStack, func(m *api.Module) { m.Functions[0].Code[0] = api.Ins{Op: 0x01} }},
		{api.ErrIndex, func(m *api.Module) { m.Functions[0].Code[1].A = 2 }},
		{api.ErrMutable, func(m *api.Module) { m.Functions[1].Code[2].A = 1 }},
		{api.ErrDead, func(m *api.Module) { m.Functions[1].Code[0] = api.Ins{Op: 0x00} }},
		{api.ErrLabel, func(m *api.Module) { m.Functions[1].Code[0] = api.Ins{Op: 0x07, A: 9} }},
	} {
		m := rich()
		x.change(&m)
		for _, s := range append(outs(), deep(), ended(halted), ended(trapped)) {
			refused(t, m, nil, s, x.e, func(int) api.Errno { return x.e })
		}
	}
}

// TestStates: ErrState of a state that may not be, ahead of ErrDone and ErrArg.
func TestStates(t *testing.T) {
	for _, s := range outs() {
		for _, script := range [][]api.Reply{nil, {{}, {Trap: true}, {}}} {
			refused(t, rich(), script, s, api.ErrState, func(int) api.Errno { return api.ErrState })
		}
	}
	if s, e := step.Step(rich(), nil, deep()); e != api.OK || s.Used != 78 {
		t.Errorf("P16.1: %d, %s of a state that may be", e, show(s))
	}
}

// TestOthers: a state of one module is none of another one.
func TestOthers(t *testing.T) {
	refused(t, of(">", "", "nop end"), nil, deep(), api.ErrState, func(int) api.Errno { return api.ErrState })
	refused(t, rich(), nil, begun(of(">", "", "nop end")), api.ErrState, func(int) api.Errno { return api.ErrState })
	refused(t, api.Module{}, nil, begun(of(">", "", "nop end")), api.ErrState, func(int) api.Errno { return api.ErrState })
}

// belowNought is Steps's error of a state that has ended.
func belowNought(n int) api.Errno {
	if n < 0 {
		return api.ErrArg
	}
	return api.OK
}

// TestDone: of what has ended Step and Next answer ErrDone; Steps answers that state, but ErrArg of less than no steps.
func TestDone(t *testing.T) {
	list := []api.State{ended(halted), ended(trapped), turned(ended(halted), func(s *api.State) { s.Results, s.Used = make([]uint64, 8), mostUsed })}
	for trap := int8(1); trap <= 6; trap++ {
		list = append(list, turned(ended(trapped), func(s *api.State) { s.Trap = trap }))
	}
	for _, s := range list {
		refused(t, rich(), []api.Reply{{}}, s, api.ErrDone, belowNought)
	}
	nothing := api.State{End: halted}
	refused(t, api.Module{}, nil, nothing, api.ErrDone, belowNought)
}

// TestBelowNought: ErrArg of less than no steps of a run that has not ended; of none the state as it was.
func TestBelowNought(t *testing.T) {
	for _, n := range counts() {
		s, e := step.Steps(rich(), nil, deep(), n)
		switch {
		case n < 0:
			if e != api.ErrArg || !identical(s, api.State{}) {
				t.Errorf("P16.2: %d steps: %d, %s", n, e, show(s))
			}
		case n == 0:
			if e != api.OK || !identical(s, deep()) {
				t.Errorf("P16.2: no steps: %d, %s", e, show(s))
			}
		default:
			if e != api.OK || s.Used <= 77 {
				t.Errorf("P16.2: %d steps: %d, %s", n, e, show(s))
			}
		}
	}
}

// TestHowMany: Steps of fewer than the run has, of as many, of more.
func TestHowMany(t *testing.T) {
	script := []api.Reply{{}, {Results: []uint64{math.MaxUint64}}}
	whole := comes(t, rich(), script, begun(rich(), 7), 22, "halted used 22 results 8 18446744073709551615 globals 7 18446744073709551615 9 pages 2 8 replies 2")
	for n := range 22 {
		s, e := step.Steps(rich(), script, begun(rich(), 7), n)
		if e != api.OK || s.End != suspended || s.Used != int64(n) {
			t.Errorf("P16.2: %d steps: %d, %s", n, e, show(s))
		}
	}
	for _, n := range []int{22, 23, 24, 1000, math.MaxInt32, math.MaxInt - 1, math.MaxInt} {
		if s, e := step.Steps(rich(), script, begun(rich(), 7), n); e != api.OK || !identical(s, whole) {
			t.Errorf("P16.2: %d steps: %d, %s", n, e, show(s))
		}
	}
	trap := of(">", "", "nop trap end")
	for _, n := range []int{2, 3, 1000, math.MaxInt} {
		if s, e := step.Steps(trap, nil, begun(trap), n); e != api.OK || show(s) != "trapped used 2 trap 1" {
			t.Errorf("P16.2: %d steps: %d, %s", n, e, show(s))
		}
	}
}

// TestNext: the last frame's function and pc, of each state of a run.
func TestNext(t *testing.T) {
	script := []api.Reply{{}, {Results: []uint64{1}}}
	var places [][2]int
	for n := range 22 {
		s, _ := step.Steps(rich(), script, begun(rich(), 7), n)
		function, pc, e := step.Next(rich(), s)
		if e != api.OK {
			t.Fatalf("P16.3: %d of %s", e, show(s))
		}
		places = append(places, [2]int{function, pc})
	}
	want := [][2]int{{0, 0}, {0, 1}}
	for pc := range 13 {
		want = append(want, [2]int{1, pc})
	}
	for pc := 2; pc < 9; pc++ {
		want = append(want, [2]int{0, pc})
	}
	if !slices.Equal(places, want) {
		t.Errorf("P16.3: %v, not %v", places, want)
	}
}

package lower_test

import (
	"math"
	"strings"
	"testing"

	"flagon/api"
	"flagon/lower"
	"flagon/validate"
)

// rich is a module with something of each kind, that may run.
func rich() api.Module {
	m := api.Module{Types: []api.Sig{{}, {Params: "w", Results: "wl"}}, Hosts: []int{0, 1}, Globals: []api.Global{{Letter: 'w', Mutable: true}, {Letter: 'l', Value: 1 << 40}}, First: 1, Most: 3}
	put(&m, "w>w", "l", "get:0 if:>w w.const:5 call:1 drop else gget:0 w.const:3 w.const:2 brtable:0,1,0 end end")
	put(&m, "w>wl", "", "loop:> get:0 w.const:1 w.sub tee:0 brif:0 end get:0 host:1 end")
	put(&m, ">", "", "block:> gget:0 brif:0 w.const:7 gset:0 end return end")
	m.Data = []api.Data{{At: 3, B: []byte{1, 2}}}
	m.Exports = []api.Export{{Name: "main", Function: 2}}
	return m
}

// refused: is that error answered, and nothing beside it?
func refused(t *testing.T, m api.Module, f int, want api.Errno) {
	t.Helper()
	if got, e := lower.Function(m, f); e != want || len(got) != 0 {
		t.Errorf("P18.1: Function %d: %d, %d lines, not %d", f, e, len(got), want)
	}
}

// others: numbers that are no function's of a module of so many.
func others(count int) []int {
	return []int{count, count + 1, 127, 128, 129, math.MaxInt32, math.MaxInt32 + 1, math.MaxInt, -1, -2, -count, math.MinInt32, math.MinInt}
}

// TestNoFunction: ErrArg below 0 and from the count of functions on.
func TestNoFunction(t *testing.T) {
	m := rich()
	for _, f := range others(3) {
		refused(t, m, f, api.ErrArg)
	}
	for f := range m.Functions {
		asked(t, m, f)
	}
	for _, f := range append(others(1), 0) {
		refused(t, api.Module{}, f, api.ErrArg)
	}
}

// faults: changes after which rich may not run, with validate.Module's error.
func faults() []func(m *api.Module) api.Errno {
	set := func(f, pc int, x api.Ins, e api.Errno) func(m *api.Module) api.Errno {
		return func(m *api.Module) api.Errno {
			m.Functions[f].Code[pc] = x
			return e
		}
	}
	return []func(m *api.Module) api.Errno{
		func(m *api.Module) api.Errno { m.Types[0].Params = "x"; return api.ErrType },
		func(m *api.Module) api.Errno { m.Types[1] = m.Types[0]; return api.ErrTwice },
		func(m *api.Module) api.Errno { m.Types[1].Params = strings.Repeat("w", 9); return api.ErrLong },
		func(m *api.Module) api.Errno { m.Hosts[0] = 9; return api.ErrIndex },
		func(m *api.Module) api.Errno { m.Globals[0].Value = 1 << 32; return api.ErrRange },
		func(m *api.Module) api.Errno { m.First = 4; return api.ErrRange },
		func(m *api.Module) api.Errno { m.Functions[0].Type = -1; return api.ErrIndex },
		func(m *api.Module) api.Errno { m.Functions = make([]api.Function, 129); return api.ErrMany },
		func(m *api.Module) api.Errno { m.Functions[2].Code = nil; return api.ErrCut },
		func(m *api.Module) api.Errno { m.Data[0].At = 4095; return api.ErrLong },
		func(m *api.Module) api.Errno { m.Exports[0].Name = ""; return api.ErrName },
		func(m *api.Module) api.Errno { m.Exports[0].Function = 3; return api.ErrIndex },
		set(1, 0, api.Ins{Op: 0xff}, api.ErrOp),
		set(0, 10, api.Ins{Op: opcodeOf["nop"]}, api.ErrCut),
		set(2, 0, api.Ins{Op: opcodeOf["nop"]}, api.ErrRest),
		set(2, 1, api.Ins{Op: opcodeOf["else"]}, api.ErrElse),
		set(0, 0, api.Ins{Op: opcodeOf["nop"]}, api.ErrStack),
		set(0, 3, api.Ins{Op: opcodeOf["call"], A: 3}, api.ErrIndex),
		set(2, 2, api.Ins{Op: opcodeOf["brif"], A: 2}, api.ErrLabel),
		set(0, 9, api.Ins{Op: opcodeOf["brtable"], L: []int{0, 2}}, api.ErrLabel),
		set(2, 1, api.Ins{Op: opcodeOf["trap"]}, api.ErrDead),
		set(2, 4, api.Ins{Op: opcodeOf["gset"], A: 1}, api.ErrMutable),
		func(m *api.Module) api.Errno {
			m.Functions[1].Code = written(m, "block:> loop:> w.const brtable:0,2 end end get:0 host:1 end")
			return api.ErrLabels
		},
		func(m *api.Module) api.Errno {
			m.Functions[1].Code = written(m, "w.const*257 trap end")
			return api.ErrHigh
		},
		func(m *api.Module) api.Errno {
			m.Functions[1].Code = written(m, "block:>*33 end*33 trap end")
			return api.ErrDeep
		},
	}
}

// TestModuleFirst: validate.Module's error, whichever function it is in, ahead of ErrArg.
func TestModuleFirst(t *testing.T) {
	for at, change := range faults() {
		m := rich()
		want := change(&m)
		if _, e, _, _ := validate.Module(m); e != want {
			t.Errorf("fault %d: %d, not %d", at, e, want)
		}
		for _, f := range append(others(3), 0, 1, 2) {
			refused(t, m, f, want)
		}
		if got, e := lower.Module(m); e != want || len(got) != 0 {
			t.Errorf("P18.1: Module: %d, %d functions, not %d", e, len(got), want)
		}
	}
	hold(t, rich())
}

// TestFirstFault: of several the one that validate.Module names.
func TestFirstFault(t *testing.T) {
	list := faults()
	for a := range list {
		for b := range list {
			m := rich()
			list[a](&m)
			if len(m.Functions) != 3 || len(m.Functions[1].Code) < 10 || len(m.Functions[2].Code) < 8 {
				continue // the other one has no place there
			}
			list[b](&m)
			_, want, _, _ := validate.Module(m)
			for _, f := range []int{-1, 0, 1, 2, 3} {
				refused(t, m, f, want)
			}
			if _, e := lower.Module(m); e != want {
				t.Errorf("P18.1: Module: %d, not %d", e, want)
			}
		}
	}
}

// TestEmptyModule: without functions there are no lines, and no error.
func TestEmptyModule(t *testing.T) {
	for _, m := range []api.Module{{}, {Types: []api.Sig{{}}, First: 1, Most: 64}, {Functions: []api.Function{}}, {Globals: []api.Global{{Letter: 'l', Value: math.MaxUint64}}}} {
		if got, e := lower.Module(m); e != api.OK || len(got) != 0 {
			t.Errorf("P18.1: %d, %v", e, got)
		}
		hold(t, m)
	}
}

// TestManyFunctions: each of them, to MaxFuncs, with its own code and its own results.
func TestManyFunctions(t *testing.T) {
	var m api.Module
	for f := range 128 {
		results := strings.Repeat("w", f%9)
		put(&m, ">"+results, "", strings.Repeat("nop ", f%40)+consts(results)+"end")
	}
	all, e := lower.Module(m)
	if e != api.OK || len(all) != 128 {
		t.Fatalf("P18.1: %d, %d functions", e, len(all))
	}
	for f, lines := range all {
		if len(lines) != f%40+f%9+1 || lines[len(lines)-1].Ways[0] != (lower.Way{To: -1, Keep: f % 9}) {
			t.Errorf("P18.1: function %d: %d lines", f, len(lines))
		}
	}
	hold(t, m)
}

// TestLargest: a module of MaxAll instructions, MaxCode in each function.
func TestLargest(t *testing.T) {
	var m api.Module
	for range 8 {
		put(&m, ">", "", "block:> loop:> nop*2041 w.const brtable:0,1,2 end end end")
	}
	hold(t, m)
	long := append([]api.Ins{{Op: opcodeOf["nop"]}}, m.Functions[0].Code...)
	if len(long) != 2049 {
		t.Fatal(len(long))
	}
	m.Functions[0].Code = long
	refused(t, m, 0, api.ErrMany)
}

package instance_test

import (
	"math"
	"slices"
	"strings"
	"testing"

	"flagon/api"
	"flagon/validate"
)

// fault is a change of rich by which it may not run, and validate.Module's error then.
type fault struct {
	e      api.Errno
	change func(m *api.Module)
}

// code is a change of the code of function 4, which is exported by no name.
func code(e api.Errno, list ...api.Ins) fault {
	return fault{e, func(m *api.Module) { m.Functions[4].Code = list }}
}

// untold: faults of module.Check.
func untold() []fault {
	return []fault{
		{api.ErrMany, func(m *api.Module) { m.Types = make([]api.Sig, 65) }},
		{api.ErrLong, func(m *api.Module) { m.Types[0].Params = "wwwwwwwww" }},
		{api.ErrType, func(m *api.Module) { m.Types[0].Results = "x" }},
		{api.ErrTwice, func(m *api.Module) { m.Types[3] = m.Types[0] }},
		{api.ErrMany, func(m *api.Module) { m.Hosts = make([]int, 33) }},
		{api.ErrIndex, func(m *api.Module) { m.Hosts[0] = 4 }},
		{api.ErrIndex, func(m *api.Module) { m.Hosts[0] = -1 }},
		{api.ErrMany, func(m *api.Module) { m.Globals = make([]api.Global, 65) }},
		{api.ErrType, func(m *api.Module) { m.Globals[3].Letter = 'x' }},
		{api.ErrRange, func(m *api.Module) { m.Globals[0].Value = high }},
		{api.ErrRange, func(m *api.Module) { m.First = -1 }},
		{api.ErrRange, func(m *api.Module) { m.First, m.Most = 65, 65 }},
		{api.ErrRange, func(m *api.Module) { m.First, m.Most = math.MaxInt, math.MaxInt }},
		{api.ErrRange, func(m *api.Module) { m.Most = 1 }},
		{api.ErrRange, func(m *api.Module) { m.Most = 65 }},
		{api.ErrMany, func(m *api.Module) { m.Functions = make([]api.Function, 129) }},
		{api.ErrIndex, func(m *api.Module) { m.Functions[4].Type = 4 }},
		{api.ErrIndex, func(m *api.Module) { m.Functions[0].Type = -1 }},
		{api.ErrLong, func(m *api.Module) { m.Functions[0].Locals = strings.Repeat("w", 63) }},
		{api.ErrType, func(m *api.Module) { m.Functions[0].Locals = "lwx" }},
		{api.ErrMany, func(m *api.Module) { m.Functions[4].Code = make([]api.Ins, 2049) }},
		{api.ErrMany, func(m *api.Module) {
			m.Functions = slices.Repeat([]api.Function{{Code: slices.Repeat([]api.Ins{{Op: 0x01}}, 2048)}}, 9)
		}},
		{api.ErrOp, func(m *api.Module) { m.Functions[1].Code[1].Op = 0xff }},
		{api.ErrRange, func(m *api.Module) { m.Functions[1].Code[2].A = 1 }},
		{api.ErrMany, func(m *api.Module) { m.Data = make([]api.Data, 65) }},
		{api.ErrRange, func(m *api.Module) { m.Data[0].At = -1 }},
		{api.ErrRange, func(m *api.Module) { m.Data[1].At = 2*size + 1 }},
		{api.ErrRange, func(m *api.Module) { m.First = 0 }},
		{api.ErrOrder, func(m *api.Module) { m.Data[1].At = 18 }},
		{api.ErrOrder, func(m *api.Module) { m.Data[0], m.Data[1] = m.Data[1], m.Data[0] }},
		{api.ErrLong, func(m *api.Module) { m.Data[1].At = 2*size - 3 }},
		{api.ErrLong, func(m *api.Module) { m.First = 1 }},
		{api.ErrRange, func(m *api.Module) { m.Data[0].B = nil }},
		{api.ErrRange, func(m *api.Module) { m.Data[1] = api.Data{At: 2 * size} }},
		{api.ErrMany, func(m *api.Module) { m.Exports = make([]api.Export, 65) }},
		{api.ErrLong, func(m *api.Module) { m.Exports[4].Name = strings.Repeat("z", 33) }},
		{api.ErrName, func(m *api.Module) { m.Exports[0].Name = "" }},
		{api.ErrName, func(m *api.Module) { m.Exports[4].Name = "z z" }},
		{api.ErrName, func(m *api.Module) { m.Exports[4].Name = "\x7f" }},
		{api.ErrOrder, func(m *api.Module) { m.Exports[4].Name = "b" }},
		{api.ErrOrder, func(m *api.Module) { m.Exports[4].Name = "aa" }},
		{api.ErrIndex, func(m *api.Module) { m.Exports[4].Function = 5 }},
		{api.ErrIndex, func(m *api.Module) { m.Exports[0].Function = -1 }},
		{api.ErrLong, func(m *api.Module) { m.First, m.Most, m.Data[1].B = 64, 64, make([]byte, 1<<16) }},
	}
}

// unfit: faults of code, of control.Map first, then of validate's own rows.
func unfit() []fault {
	end := api.Ins{Op: 0x06}
	deep := append(slices.Repeat([]api.Ins{{Op: 0x02}}, 33), slices.Repeat([]api.Ins{end}, 34)...)
	return []fault{
		code(api.ErrDeep, deep...),
		code(api.ErrElse, api.Ins{Op: 0x02}, api.Ins{Op: 0x05}, end, end),
		code(api.ErrCut),
		code(api.ErrCut, api.Ins{Op: 0x01}),
		code(api.ErrRest, end, end),
		code(api.ErrIndex, api.Ins{Op: 0x02, A: 4}, end, end),
		code(api.ErrIndex, api.Ins{Op: 0x0b, A: 5}, end),
		code(api.ErrIndex, api.Ins{Op: 0x0c, A: 1}, end),
		code(api.ErrIndex, api.Ins{Op: 0x12, A: 1}, end),
		code(api.ErrIndex, api.Ins{Op: 0x15, A: 4}, end),
		code(api.ErrLabel, api.Ins{Op: 0x07, A: 1}, end),
		code(api.ErrLabels, api.Ins{Op: 0x02, A: 3}, api.Ins{Op: 0x09, L: []int{0, 1}}, end, end),
		code(api.ErrStack, api.Ins{Op: 0x10}, end),
		code(api.ErrStack, api.Ins{Op: 0x18}, end),
		code(api.ErrHigh, append(slices.Repeat([]api.Ins{{Op: 0x18}}, 257), end)...),
		code(api.ErrDead, api.Ins{Op: 0x00}, api.Ins{Op: 0x01}, end),
		code(api.ErrElse, api.Ins{Op: 0x18}, api.Ins{Op: 0x04, A: 3}, api.Ins{Op: 0x19}, end, api.Ins{Op: 0x10}, end),
		code(api.ErrMutable, api.Ins{Op: 0x19}, api.Ins{Op: 0x16, A: 1}, end),
	}
}

// TestModuleFirst: validate.Module's error is ahead of ErrExport and ErrParams, from both calls.
func TestModuleFirst(t *testing.T) {
	for _, x := range append(untold(), unfit()...) {
		m := rich(t)
		x.change(&m)
		if _, e, _, _ := validate.Module(m); e != x.e {
			t.Fatalf("validate.Module answers %d, not %d", e, x.e)
		}
		for _, name := range []string{"a", "ab", "abc", "b", "z", "", "c", "nix"} {
			unsigned(t, m, name, x.e)
			for _, args := range [][]uint64{nil, {1}, {1, 2}, {high}, {1, 2, 3}, make([]uint64, 100)} {
				refused(t, m, name, args, x.e)
			}
		}
	}
}

// TestFirstFault: of two faults of a module that which validate.Module finds first.
func TestFirstFault(t *testing.T) {
	m := rich(t)
	m.Functions[4].Code, m.Functions[3].Code = nil, []api.Ins{{Op: 0x06}}
	unsigned(t, m, "a", api.ErrStack)
	refused(t, m, "a", nil, api.ErrStack)
	m.Exports[4].Name = ""
	unsigned(t, m, "a", api.ErrName)
	refused(t, m, "a", nil, api.ErrName)
}

// TestNoExport: ErrExport of every name that no export has, ahead of ErrParams.
func TestNoExport(t *testing.T) {
	m := rich(t)
	m.Exports = append(m.Exports, api.Export{Name: "zebra", Function: 0}, api.Export{Name: strings.Repeat("~", 32), Function: 1})
	names := []string{
		"", "c", "A", "AB", "B", "aa", "ac", "ba", "zebr", "zebras", "ebra", "Zebra", "ze", "zz", "abcd", "aba", "abcabc",
		" a", "a ", "a\x00", "\x00a", "a\n", "a\t", "ab;", "\"a\"", "0", "2", "func", "main", "export", "export a", "\xff", "é", "a\xff", "\u0430",
		strings.Repeat("~", 31), strings.Repeat("~", 33), strings.Repeat("a", 100000), "~", "!", "\x7f", "-1",
	}
	for _, name := range names {
		unsigned(t, m, name, api.ErrExport)
		for _, args := range [][]uint64{nil, {}, {1}, {1, 2}, {high}, {high, high}, make([]uint64, 9), make([]uint64, 1000)} {
			refused(t, m, name, args, api.ErrExport)
		}
	}
	begins(t, m, "zebra", 1, 2)
	begins(t, m, strings.Repeat("~", 32), 1)
	for _, m := range []api.Module{{}, {Most: 1, First: 1}, {Types: m.Types, Functions: m.Functions[2:3]}} {
		for _, name := range append(names, "a", "ab") {
			unsigned(t, m, name, api.ErrExport)
			refused(t, m, name, nil, api.ErrExport)
			refused(t, m, name, []uint64{high}, api.ErrExport)
		}
	}
}

// TestCount: ErrParams of too few arguments and of too many, whatever they are; locals are no parameters.
func TestCount(t *testing.T) {
	for _, params := range []string{"", "w", "l", "ww", "wl", "lw", "wwwl", "llllllll", "wwwwwwww", "wlwlwlwl"} {
		for _, locals := range []string{"", "w", "lwl", strings.Repeat("l", 56)} {
			m := one(api.Sig{Params: params, Results: "w"}, locals)
			for _, count := range []int{0, 1, 2, 3, 4, 5, 7, 8, 9, 16, 57, 64, 65, 256, 1000} {
				for _, v := range []uint64{0, 1, high - 1} {
					args := slices.Repeat([]uint64{v}, count)
					if count == len(params) {
						begins(t, m, "f", args...)
						continue
					}
					refused(t, m, "f", args, api.ErrParams)
				}
			}
		}
	}
}

// TestFit: ErrParams of a value that does not fit its letter, at each place, at the ends of what a word can hold.
func TestFit(t *testing.T) {
	values := []uint64{0, 1, math.MaxInt32, math.MaxInt32 + 1, high - 2, high - 1, high, high + 1, 1 << 33, math.MaxInt64, math.MaxInt64 + 1, math.MaxUint64 - 1, math.MaxUint64, math.MaxUint64 - high + 1}
	for _, params := range []string{"w", "l", "ww", "wl", "lw", "ll", "wwwwwwww", "llllllll", "wlwlwlwl", "lwlwlwlw", "wwwwwwwl", "lllllllw"} {
		m := one(api.Sig{Params: params}, "wl")
		for at := range params {
			for _, v := range values {
				args := slices.Repeat([]uint64{7}, len(params))
				args[at] = v
				if params[at] == 'l' || v < high {
					begins(t, m, "f", args...)
					continue
				}
				refused(t, m, "f", args, api.ErrParams)
				isOf(t, m, "f", api.Sig{Params: params})
			}
		}
	}
}

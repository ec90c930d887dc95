package validate_test

import (
	"slices"
	"testing"

	"flagon/api"
	"flagon/module"
	"flagon/validate"
)

// untold is a change by which a module may not be told, and the error of that.
type untold struct {
	e      api.Errno
	change func(*api.Module)
}

func untolds() []untold {
	return []untold{
		{api.ErrMany, func(m *api.Module) { m.Types = slices.Repeat(m.Types, 8) }},
		{api.ErrLong, func(m *api.Module) { m.Types[0].Results = "wwwwwwwww" }},
		{api.ErrType, func(m *api.Module) { m.Types[0].Results = "x" }},
		{api.ErrTwice, func(m *api.Module) { m.Types[1] = m.Types[0] }},
		{api.ErrIndex, func(m *api.Module) { m.Hosts[0] = 9 }},
		{api.ErrIndex, func(m *api.Module) { m.Hosts[0] = -1 }},
		{api.ErrType, func(m *api.Module) { m.Globals[0].Letter = 'x' }},
		{api.ErrRange, func(m *api.Module) { m.Globals[0].Value = 1 << 32 }},
		{api.ErrRange, func(m *api.Module) { m.First = -1 }},
		{api.ErrRange, func(m *api.Module) { m.First = 3 }},
		{api.ErrIndex, func(m *api.Module) { m.Functions[0].Type = 9 }},
		{api.ErrIndex, func(m *api.Module) { m.Functions[3].Type = -1 }},
		{api.ErrType, func(m *api.Module) { m.Functions[0].Locals = "x" }},
		{api.ErrMany, func(m *api.Module) { m.Functions[0].Code = slices.Repeat(m.Functions[0].Code, 2000) }},
		{api.ErrOp, func(m *api.Module) { m.Functions[0].Code[0].Op = 0xff }},
		{api.ErrRange, func(m *api.Module) { m.Functions[0].Code[1].A = 1 }},
		{api.ErrRange, func(m *api.Module) { m.Functions[0].Code[0] = api.Ins{Op: 0x07, A: -1} }},
		{api.ErrRange, func(m *api.Module) { m.Functions[0].Code[0] = api.Ins{Op: 0x12, A: 1 << 31} }},
		{api.ErrRange, func(m *api.Module) { m.Functions[0].Code[0] = api.Ins{Op: 0x09} }},
		{api.ErrRange, func(m *api.Module) { m.Functions[0].Code[0] = api.Ins{Op: 0x09, L: []int{0, -1}} }},
		{api.ErrOrder, func(m *api.Module) { m.Data = append(m.Data, m.Data[0]) }},
		{api.ErrName, func(m *api.Module) { m.Exports = []api.Export{{}} }},
		{api.ErrIndex, func(m *api.Module) { m.Exports = []api.Export{{Name: "f", Function: 4}} }},
	}
}

// TestUntold: module.Check's error is ahead of all else: of the function's number, and of its code.
func TestUntold(t *testing.T) {
	for n, x := range untolds() {
		for _, code := range []string{"w.const end", "nop", "drop end"} {
			m := one(code)
			if len(m.Functions[0].Code) < 2 {
				m.Functions[0].Code = append(m.Functions[0].Code, written("nop")...)
			}
			x.change(&m)
			for _, number := range []int{0, 1, 3, 4, -1} {
				if got := asked(m, number); got.e != x.e || got.pc != -1 || !sameTable(got.table, api.Table{}) {
					t.Errorf("P10.1: %d, function %d: %v, not %d", n, number, got, x.e)
				}
			}
			if tables, e, number, pc := validate.Module(m); e != x.e || number != -1 || pc != 0 || len(tables) != 0 {
				t.Errorf("P10.2: %d: %v, %d, %d, %d, not %d", n, tables, e, number, pc, x.e)
			}
		}
	}
}

// TestUnread: module.Decode's error, and its place.
func TestUnread(t *testing.T) {
	whole := encoded(t, one("w.const:5 w.eqz end"))
	refusal := func(b []byte) {
		t.Helper()
		_, e, at := module.Decode(b)
		if m, tables, gotE, number, gotAt := validate.Bytes(b); e == api.OK || gotE != e || number != -1 || gotAt != at || len(tables) != 0 || !sameModule(m, api.Module{}) {
			t.Errorf("P10.3: %x: %v, %v, %d, %d, %d, not %d, %d", b, m, tables, gotE, number, gotAt, e, at)
		}
	}
	refusal(nil)
	refusal([]byte{})
	refusal([]byte("FLGN"))
	refusal([]byte("FLGN\x02"))
	refusal(make([]byte, 1<<16+1))
	for cut := range whole {
		refusal(whole[:cut])
	}
	refusal(append(slices.Clone(whole), 0))
	for _, x := range []struct {
		bytes string
		e     api.Errno
		at    int
	}{
		{"FLGN", api.ErrMagic, 0},
		{"FLGN\x01", api.ErrEnd, 5},
		{"FLGN\x01\x01\x01x\x00", api.ErrType, 6},
		{"FLGN\x01\x02\x00\x00\x00\x00", api.ErrTwice, 8},
		{"FLGN\x01\x00\x01\x00", api.ErrIndex, 7},
		{"FLGN\x01\x00\x00\x00\x00\x00\x00\x00\x00\x00", api.ErrRest, 13},
		{"FLGN\x01\x01\x00\x00\x00\x00\x00\x00\x01\x00\x00\x01\xff", api.ErrOp, 16},
	} {
		if m, tables, e, number, at := validate.Bytes([]byte(x.bytes)); e != x.e || number != -1 || at != x.at || len(tables) != 0 || !sameModule(m, api.Module{}) {
			t.Errorf("P10.3: %x: %v, %v, %d, %d, %d, not %d, -1, %d", x.bytes, m, tables, e, number, at, x.e, x.at)
		}
	}
	if m, tables, e, number, at := validate.Bytes([]byte("FLGN\x01\x00\x00\x00\x00\x00\x00\x00\x00")); e != api.OK || number != 0 || at != 0 || len(tables) != 0 || !sameModule(m, api.Module{}) {
		t.Errorf("P10.3: a module of nothing: %v, %v, %d, %d, %d", m, tables, e, number, at)
	}
}

// TestNesting: control.Map's error is ahead of all that the rows ask, even at earlier instructions.
func TestNesting(t *testing.T) {
	for _, ahead := range []string{"", "drop ", "br:9 ", "call:99 ", "get:99 ", "trap nop ", "w.const gset:0 "} {
		count := len(written(ahead))
		refused(t, 0, ahead, api.ErrCut, count)
		refused(t, 0, ahead+"block:2 end", api.ErrCut, count+2)
		refused(t, 0, ahead+"end nop", api.ErrRest, count+1)
		refused(t, 0, ahead+"end end", api.ErrRest, count+1)
		refused(t, 0, ahead+"else end", api.ErrElse, count)
		refused(t, 0, ahead+"block:9 else end end", api.ErrElse, count+1)
		refused(t, 0, ahead+"loop:9 else end end", api.ErrElse, count+1)
		refused(t, 0, ahead+"if:9 else else end end", api.ErrElse, count+2)
		refused(t, 0, ahead+many("block:9", 33)+many("end", 34), api.ErrDeep, count+32)
	}
	deep := many("block:2", 32) + "w.const if:2 end "
	refused(t, 2, deep+many("end", 33), api.ErrDeep, 33)
	if got := asked(of(2, many("block:2", 32)+many("end", 33)), 0); got.e != api.OK {
		t.Errorf("P10.1: 32 openers: %d, %d", got.e, got.pc)
	}
}

// TestFirst: the first error of a code, and the first function's of a module.
func TestFirst(t *testing.T) {
	faults := []struct {
		code string
		e    api.Errno
		pc   int
	}{
		{"drop end", api.ErrStack, 0}, {"nop br:1 end", api.ErrLabel, 1}, {"trap nop end", api.ErrDead, 1}, {"w.const gset:0 end", api.ErrMutable, 1},
		{"get:2 end", api.ErrIndex, 0}, {"w.const if:0 w.const end end", api.ErrElse, 3}, {many("w.const", 257) + "end", api.ErrHigh, 256},
		{"block:0 w.const w.const brtable:0,1 end end", api.ErrLabels, 3}, {"nop", api.ErrCut, 1}, {"end nop", api.ErrRest, 1}, {many("block:2", 33), api.ErrDeep, 32}, {"nop else end", api.ErrElse, 1},
	}
	for _, x := range faults {
		for _, y := range faults {
			m := of(2, x.code)
			m.Functions = append(m.Functions, of(2, y.code).Functions[0])
			if tables, e, number, pc := validate.Module(m); e != x.e || number != 0 || pc != x.pc || len(tables) != 0 {
				t.Errorf("P10.2: %s, then %s: %d, %d, %d", x.code, y.code, e, number, pc)
			}
			m.Functions = m.Functions[1:]
			if tables, e, number, pc := validate.Module(m); e != y.e || number != 3 || pc != y.pc || len(tables) != 0 {
				t.Errorf("P10.2: three functions, then %s: %d, %d, %d", y.code, e, number, pc)
			}
			if _, _, e, number, pc := validate.Bytes(encoded(t, m)); e != y.e || number != 3 || pc != y.pc {
				t.Errorf("P10.3: three functions, then %s: %d, %d, %d", y.code, e, number, pc)
			}
			if got := asked(m, 3); got.e != y.e || got.pc != y.pc {
				t.Errorf("P10.1: %s: %v", y.code, got)
			}
			if got := asked(m, 0); got.e != api.OK {
				t.Errorf("P10.1: a function beside %s: %v", y.code, got)
			}
		}
	}
	refused(t, 2, "nop drop br:9 end", api.ErrStack, 1)
	refused(t, 2, "nop br:9 drop end", api.ErrLabel, 1)
	refused(t, 2, "trap get:9 end", api.ErrDead, 1)
	refused(t, 2, "w.const gset:0 call:9 end", api.ErrMutable, 1)
}

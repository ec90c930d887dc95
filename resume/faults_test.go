package resume_test

import (
	"bytes"
	"slices"
	"strings"
	"testing"

	"flagon/api"
	"flagon/validate"
)

// fault is a change of rich by which it may not run, and validate.Module's error then.
type fault struct {
	e      api.Errno
	change func(m *api.Module)
}

// faults: each error of validate.Module.
func faults() []fault {
	end := api.Ins{Op: 0x06}
	code := func(e api.Errno, list ...api.Ins) fault {
		return fault{e, func(m *api.Module) { m.Functions[3].Code = list }}
	}
	high257 := append(slices.Repeat([]api.Ins{{Op: 0x18}}, 257), end)
	nested := append(slices.Repeat([]api.Ins{{Op: 0x02}}, 33), slices.Repeat([]api.Ins{end}, 34)...)
	return []fault{
		{api.ErrMany, func(m *api.Module) { m.Types = make([]api.Sig, 65) }},
		{api.ErrLong, func(m *api.Module) { m.Types[0].Params = "wwwwwwwww" }},
		{api.ErrType, func(m *api.Module) { m.Types[0].Results = "x" }},
		{api.ErrTwice, func(m *api.Module) { m.Types[3] = m.Types[0] }},
		{api.ErrIndex, func(m *api.Module) { m.Hosts[0] = -1 }},
		{api.ErrRange, func(m *api.Module) { m.Globals[0].Value = high }},
		{api.ErrRange, func(m *api.Module) { m.Most = 65 }},
		{api.ErrRange, func(m *api.Module) { m.First = -1 }},
		{api.ErrIndex, func(m *api.Module) { m.Functions[0].Type = 5 }},
		{api.ErrLong, func(m *api.Module) { m.Functions[0].Locals = strings.Repeat("w", 65) }},
		{api.ErrOp, func(m *api.Module) { m.Functions[1].Code[1].Op = 0xff }},
		{api.ErrOrder, func(m *api.Module) { m.Data = append(m.Data, m.Data[0]) }},
		{api.ErrName, func(m *api.Module) { m.Exports[0].Name = "" }},
		code(api.ErrDeep, nested...),
		code(api.ErrCut),
		code(api.ErrRest, api.Ins{Op: 0x12}, end, end),
		code(api.ErrIndex, api.Ins{Op: 0x0b, A: 4}, end),
		code(api.ErrLabel, api.Ins{Op: 0x07, A: 1}, end),
		code(api.ErrLabels, api.Ins{Op: 0x02}, api.Ins{Op: 0x18}, api.Ins{Op: 0x09, L: []int{0, 1}}, end, end),
		code(api.ErrStack, end),
		code(api.ErrHigh, high257...),
		code(api.ErrDead, api.Ins{}, api.Ins{Op: 0x01}, end),
		code(api.ErrElse, api.Ins{Op: 0x18}, api.Ins{Op: 0x04, A: 2}, api.Ins{Op: 0x18}, end, end),
		code(api.ErrMutable, api.Ins{Op: 0x19}, api.Ins{Op: 0x16, A: 1}, end),
	}
}

// faulty: rich with that fault.
func faulty(t *testing.T, x fault) api.Module {
	t.Helper()
	m := rich(t)
	x.change(&m)
	if _, e, _, _ := validate.Module(m); e != x.e {
		t.Fatalf("validate.Module answers %d, not %d", e, x.e)
	}
	return m
}

// TestModuleFirstRead: of a module that may not run its error and 0, whatever the bytes are.
func TestModuleFirstRead(t *testing.T) {
	forged := turned(deep(), func(s *api.State) { s.Frames[2].Pc = 9 })
	right := raw(deep())
	list := [][]byte{
		right, raw(ended(halted)), raw(ended(trapped)), raw(begun()), raw(forged), raw(api.State{}),
		nil, {}, []byte("FSNP"), []byte("FLGN\x01"), []byte(head), right[:len(right)-1], append(slices.Clone(right), 0), right[:17],
		bytes.Repeat([]byte{255}, 100), make([]byte, mostLong+1), append([]byte(head), make([]byte, mostLong)...),
	}
	for _, x := range faults() {
		m := faulty(t, x)
		for at, b := range list {
			refused(t, m, b, x.e, 0, "the bytes %d with a module that may not run", at)
		}
	}
	both(t, rich(t), deep())
}

// TestModuleFirstWrite: of a module that may not run its error, whatever the state is.
func TestModuleFirstWrite(t *testing.T) {
	list := append(ends(), begun(), api.State{}, api.State{End: 9, Used: -1})
	for _, x := range outs() {
		for _, s := range ends() {
			list = append(list, turned(s, x.change))
		}
	}
	for _, x := range faults() {
		m := faulty(t, x)
		for at, s := range list {
			untold(t, m, s, x.e, "the state %d with a module that may not run", at)
		}
	}
}

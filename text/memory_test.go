package text_test

import (
	"reflect"
	"slices"
	"testing"

	"flagon/api"
	"flagon/text"
)

// whole is a list with its spare room.
func whole[T any](list []T) []T {
	return list[:cap(list)]
}

// roomy is a list with spare room that has v in it.
func roomy[T any](list []T, v T) []T {
	return append(slices.Clone(list), v, v, v)[:len(list)]
}

func fill[T any](list []T, v T) {
	for i := range whole(list) {
		whole(list)[i] = v
	}
}

// spoil writes over every list of m, spare room too.
func spoil(m api.Module) {
	for _, f := range m.Functions {
		for _, x := range f.Code {
			fill(x.L, -1)
		}
		fill(f.Code, api.Ins{Op: 0xff, A: -1})
	}
	for _, d := range m.Data {
		fill(d.B, 0xee)
	}
	fill(m.Types, api.Sig{Params: "x"})
	fill(m.Hosts, -1)
	fill(m.Globals, api.Global{Letter: 'x'})
	fill(m.Functions, api.Function{Type: -1})
	fill(m.Data, api.Data{At: -1})
	fill(m.Exports, api.Export{Function: -1})
}

// withRoom is m with spare room behind each list.
func withRoom(m api.Module) api.Module {
	out := plain(m)
	for i := range out.Functions {
		f := &out.Functions[i]
		for j := range f.Code {
			f.Code[j].L = roomy(f.Code[j].L, 77)
		}
		f.Code = roomy(f.Code, api.Ins{Op: 0x01})
	}
	for i := range out.Data {
		out.Data[i].B = roomy(out.Data[i].B, 0x77)
	}
	out.Types = roomy(out.Types, api.Sig{Params: "l"})
	out.Hosts = roomy(out.Hosts, 1)
	out.Globals = roomy(out.Globals, api.Global{Letter: 'w'})
	out.Functions = roomy(out.Functions, api.Function{Locals: "l"})
	out.Data = roomy(out.Data, api.Data{At: 99})
	out.Exports = roomy(out.Exports, api.Export{Name: "z"})
	return out
}

// opened is m with its spare room as elements.
func opened(m api.Module) api.Module {
	m.Functions = slices.Clone(whole(m.Functions))
	for i := range m.Functions {
		f := &m.Functions[i]
		f.Code = slices.Clone(whole(f.Code))
		for j := range f.Code {
			f.Code[j].L = whole(f.Code[j].L)
		}
	}
	m.Data = slices.Clone(whole(m.Data))
	for i := range m.Data {
		m.Data[i].B = whole(m.Data[i].B)
	}
	m.Types, m.Hosts, m.Globals, m.Exports = whole(m.Types), whole(m.Hosts), whole(m.Globals), whole(m.Exports)
	return plain(m)
}

func TestPrintLeavesItsArgument(t *testing.T) {
	m := withRoom(rich())
	before := opened(m)
	if s, e := text.Print(m); s != joined(lines(rich())) || e != api.OK {
		t.Errorf("R5: with spare room: %q, %d", s, e)
	}
	m.Exports[0].Function = 3
	if _, e := text.Print(m); e != api.ErrIndex {
		t.Errorf("P6.1: %d", e)
	}
	m.Exports[0].Function = 2
	if !reflect.DeepEqual(opened(m), before) {
		t.Errorf("R5: Print changed its argument: %v, not %v", opened(m), before)
	}
}

func TestParseAnswersNewMemory(t *testing.T) {
	s := joined(lines(rich()))
	first, _, _ := text.Parse(s)
	second, _, _ := text.Parse(s)
	spoil(first)
	if !same(second, rich()) {
		t.Errorf("R5: two answers of Parse share memory: %v", second)
	}
	taken(t, "R6: after an answer was changed", s, rich())
}

// Lists of one answer that grow by a caller's append must not run into each other.
func TestListsOfOneAnswerAreApart(t *testing.T) {
	s := joined(lines(rich()))
	m, _, _ := text.Parse(s)
	for i, f := range m.Functions {
		for j, x := range f.Code {
			_ = append(x.L, -5, -5, -5)
			fill(x.L[len(x.L):], -6)
			if j == len(f.Code)-1 {
				fill(f.Code[len(f.Code):], api.Ins{Op: 0xee})
			}
		}
		if i == len(m.Functions)-1 {
			fill(m.Functions[len(m.Functions):], api.Function{Type: -7})
		}
	}
	for _, d := range m.Data {
		fill(d.B[len(d.B):], 0xee)
	}
	if !same(m, rich()) {
		t.Errorf("R5: lists of one answer share memory: %v", m)
	}
}

// R4: lists without elements are as nil ones.
func TestEmptyLists(t *testing.T) {
	m := api.Module{Types: []api.Sig{}, Hosts: []int{}, Globals: []api.Global{}, Functions: []api.Function{}, Data: []api.Data{}, Exports: []api.Export{}}
	told(t, m, "flagon\nmemory 0 0\n")
	m = api.Module{Types: []api.Sig{{}}, Functions: []api.Function{{Code: []api.Ins{}}, {Code: []api.Ins{{Op: 0x01, L: []int{}}}}}}
	told(t, m, "flagon\ntype - -> -\nmemory 0 0\nfunc 0 -\nfunc 0 -\n  nop\n")
}

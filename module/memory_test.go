package module_test

import (
	"bytes"
	"slices"
	"testing"

	"flagon/api"
	"flagon/module"
)

// whole is a list with its spare room.
func whole[T any](list []T) []T {
	return list[:cap(list)]
}

// roomy is a list with spare room that has v in it.
func roomy[T any](list []T, v T) []T {
	return append(slices.Clone(list), v, v, v)[:len(list)]
}

// spoil writes over every list of m, spare room too.
func spoil(m api.Module) {
	for _, f := range m.Functions {
		for _, x := range f.Code {
			for i := range whole(x.L) {
				whole(x.L)[i] = -1
			}
		}
		for i := range whole(f.Code) {
			whole(f.Code)[i] = api.Ins{Op: 0xff, A: -1}
		}
	}
	for _, d := range m.Data {
		for i := range whole(d.B) {
			whole(d.B)[i] = 0xee
		}
	}
	fill(m.Types, api.Sig{Params: "x"})
	fill(m.Hosts, -1)
	fill(m.Globals, api.Global{Letter: 'x'})
	fill(m.Functions, api.Function{Type: -1})
	fill(m.Data, api.Data{At: -1})
	fill(m.Exports, api.Export{Function: -1})
}

func fill[T any](list []T, v T) {
	for i := range whole(list) {
		whole(list)[i] = v
	}
}

func TestEncodeMemory(t *testing.T) {
	m := rich()
	b, _ := module.Encode(m)
	again, _ := module.Encode(m)
	fill(b, 0xee)
	if !bytes.Equal(again, raw(m)) {
		t.Errorf("R5: two answers of Encode share memory: %x", again)
	}
	spoil(m)
	if !bytes.Equal(again, raw(rich())) {
		t.Errorf("R5: Encode keeps m: %x", again)
	}
}

// TestModuleStays: m is not changed, nor its spare room, whether it may be or not.
func TestModuleStays(t *testing.T) {
	for _, x := range append(wrongs(), wrong{"", api.OK, func(*api.Module) {}}) {
		m := roomyModule(x)
		module.Check(m)
		module.Encode(m)
		if want := roomyModule(x); !sameWhole(m, want) {
			t.Errorf("R5: %s: m is changed: %v, not %v", x.piece, m, want)
		}
	}
}

func roomyModule(x wrong) api.Module {
	m := rich()
	x.change(&m)
	for i := range m.Functions {
		f := &m.Functions[i]
		for j := range f.Code {
			f.Code[j].L = roomy(f.Code[j].L, 77)
		}
		f.Code = roomy(f.Code, api.Ins{Op: 0x77})
	}
	for i := range m.Data {
		m.Data[i].B = roomy(m.Data[i].B, 0x77)
	}
	m.Types = roomy(m.Types, api.Sig{Params: "77"})
	m.Hosts = roomy(m.Hosts, 77)
	m.Globals = roomy(m.Globals, api.Global{Letter: 77})
	m.Functions = roomy(m.Functions, api.Function{Type: 77})
	m.Data = roomy(m.Data, api.Data{At: 77})
	m.Exports = roomy(m.Exports, api.Export{Name: "77"})
	return m
}

// sameWhole: all lists alike, with three elements of their spare room.
func sameWhole(x, y api.Module) bool {
	return same(x, y) && same(widened(x), widened(y))
}

func widened(m api.Module) api.Module {
	m.Types, m.Hosts, m.Globals = wider(m.Types), wider(m.Hosts), wider(m.Globals)
	m.Functions, m.Data, m.Exports = slices.Clone(wider(m.Functions)), slices.Clone(wider(m.Data)), wider(m.Exports)
	for i := range m.Functions {
		if i >= len(m.Functions)-3 {
			break
		}
		code := slices.Clone(wider(m.Functions[i].Code))
		for j := range code[:len(code)-3] {
			code[j].L = wider(code[j].L)
		}
		m.Functions[i].Code = code
	}
	for i := range m.Data[:len(m.Data)-3] {
		m.Data[i].B = wider(m.Data[i].B)
	}
	return m
}

func wider[T any](list []T) []T {
	return list[:len(list)+3]
}

func TestDecodeMemory(t *testing.T) {
	full := append(raw(rich()), 0x80, 0x80)
	in := full[: len(full)-2 : len(full)]
	m, _, _ := module.Decode(in)
	again, _, _ := module.Decode(in)
	if !bytes.Equal(full, append(raw(rich()), 0x80, 0x80)) {
		t.Errorf("R5: Decode changes b: %x", full)
	}
	spoil(m)
	if !same(again, rich()) {
		t.Errorf("R5: two answers of Decode share memory: %v", again)
	}
	fill(in, 0xee)
	if !same(again, rich()) {
		t.Errorf("R5: Decode keeps b: %v", again)
	}
	if !bytes.Equal(raw(again), raw(rich())) {
		t.Errorf("R5: Decode keeps b: %v", again)
	}
}

// TestListsApart: no two lists of one answer share memory, spare room neither.
func TestListsApart(t *testing.T) {
	code := []api.Ins{{Op: 0x09, L: []int{1}}, {Op: 0x09, L: []int{1, 2, 3}}, {Op: 0x06}}
	m := api.Module{Types: []api.Sig{{}}, First: 1, Most: 1, Functions: slices.Repeat([]api.Function{{Code: code}}, 5), Data: manyData(9)}
	got, e, _ := module.Decode(raw(m))
	if e != api.OK {
		t.Fatalf("P5.3: %d", e)
	}
	for i, f := range got.Functions {
		for j, x := range f.Code {
			fill(x.L, 100*i+j)
		}
		for j := len(f.Code); j < cap(f.Code); j++ {
			whole(f.Code)[j] = api.Ins{Op: byte(i)}
		}
	}
	for i, d := range got.Data {
		fill(d.B, byte(i))
	}
	for i, f := range got.Functions {
		for j, x := range f.Code {
			if x.Op != code[j].Op || len(x.L) != len(code[j].L) || slices.ContainsFunc(x.L, func(v int) bool { return v != 100*i+j }) {
				t.Errorf("R5: the labels of %d in function %d: %v", j, i, x)
			}
		}
		for j := len(f.Code); j < cap(f.Code); j++ {
			if whole(f.Code)[j].Op != byte(i) {
				t.Errorf("R5: the spare room of function %d is another's", i)
			}
		}
	}
	for i, d := range got.Data {
		if slices.ContainsFunc(whole(d.B), func(c byte) bool { return c != byte(i) }) {
			t.Errorf("R5: data %d shares memory: %v", i, whole(d.B))
		}
	}
}

// TestEmptyLists: a list that is nil and one without elements are the same (R4).
func TestEmptyLists(t *testing.T) {
	m := api.Module{Types: []api.Sig{}, Hosts: []int{}, Globals: []api.Global{}, Functions: []api.Function{}, Data: []api.Data{}, Exports: []api.Export{}}
	takes(t, "empty lists", m)
	m = example()
	m.Functions[0].Code[1].L = []int{}
	m.Functions = append(m.Functions, api.Function{Code: []api.Ins{}})
	takes(t, "empty lists within", m)
	refuses(t, "data without bytes", api.Module{First: 1, Most: 1, Data: []api.Data{{B: []byte{}}}}, api.ErrRange)
}

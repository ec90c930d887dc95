package validate_test

import (
	"math/rand"
	"slices"
	"testing"

	"flagon/api"
	"flagon/validate"
)

// roomy is a list with spare room that has v in it.
func roomy[T any](list []T, v T) []T {
	return append(slices.Clone(list), v, v, v)[:len(list)]
}

// whole is a list with its spare room.
func whole[T any](list []T) []T {
	return slices.Clone(list[:cap(list)])
}

// roomyModule is the same module, in lists that have spare room.
func roomyModule(m api.Module) api.Module {
	m.Types, m.Hosts, m.Globals = roomy(m.Types, api.Sig{Params: "77"}), roomy(m.Hosts, 77), roomy(m.Globals, api.Global{Letter: 77})
	m.Functions = roomy(m.Functions, api.Function{Type: 77})
	for i := range m.Functions {
		f := &m.Functions[i]
		f.Code = roomy(f.Code, api.Ins{Op: 0x77})
		for at := range f.Code {
			f.Code[at].L = roomy(f.Code[at].L, 77)
		}
	}
	m.Data, m.Exports = roomy(m.Data, api.Data{At: 77}), roomy(m.Exports, api.Export{Name: "77"})
	return m
}

// wholeModule is a module with all spare room.
func wholeModule(m api.Module) api.Module {
	m.Types, m.Hosts, m.Globals, m.Functions, m.Data, m.Exports = whole(m.Types), whole(m.Hosts), whole(m.Globals), whole(m.Functions), whole(m.Data), whole(m.Exports)
	for i := range m.Functions {
		f := &m.Functions[i]
		f.Code = whole(f.Code)
		for at := range f.Code {
			f.Code[at].L = whole(f.Code[at].L)
		}
	}
	return m
}

// TestArguments: neither the module nor the bytes are changed, spare room neither, whatever is answered.
func TestArguments(t *testing.T) {
	r := rand.New(rand.NewSource(103))
	for n := range 400 {
		m := drawnModule(r)
		if n%2 == 0 {
			m = changed(r, m)
		}
		m = roomyModule(m)
		before := wholeModule(m)
		for number := -1; number <= len(m.Functions); number++ {
			validate.Function(m, number)
		}
		validate.Module(m)
		if !sameModule(wholeModule(m), before) {
			t.Fatalf("R5: %v is changed", m)
		}
		b := roomy(encoded(t, m), 0x77)
		bytes := whole(b)
		validate.Bytes(b)
		if !slices.Equal(whole(b), bytes) {
			t.Fatalf("R5: %x is changed", b)
		}
	}
}

// spoil writes over a list, spare room too.
func spoil[T any](list []T, v T) {
	list = list[:cap(list)]
	for i := range list {
		list[i] = v
	}
}

// spoilModule writes over all lists of a module.
func spoilModule(m api.Module) {
	for _, f := range m.Functions {
		for _, x := range f.Code {
			spoil(x.L, -7)
		}
		spoil(f.Code, api.Ins{Op: 0xff})
	}
	for _, d := range m.Data {
		spoil(d.B, 7)
	}
	spoil(m.Types, api.Sig{Params: "x"})
	spoil(m.Hosts, -7)
	spoil(m.Globals, api.Global{})
	spoil(m.Functions, api.Function{Type: -7})
	spoil(m.Data, api.Data{At: -7})
	spoil(m.Exports, api.Export{Name: "x"})
}

// spoilTable writes over one of a table's lists.
func spoilTable(table api.Table, which int) {
	if which == 3 {
		spoil(table.Shapes, "x")
		return
	}
	spoil([][]int{table.Ends, table.Elses, table.Floors}[which], -7)
}

// without is a table without one of its lists.
func without(table api.Table, which int) api.Table {
	switch which {
	case 0:
		table.Ends = nil
	case 1:
		table.Elses = nil
	case 2:
		table.Floors = nil
	default:
		table.Shapes = nil
	}
	return table
}

// TestAnswers: each list of a table is memory of its own, and so are the tables of a module, and the module that was read.
func TestAnswers(t *testing.T) {
	r := rand.New(rand.NewSource(104))
	for range 150 {
		m := drawnModule(r)
		var expected []api.Table
		for function := range m.Functions {
			expected = append(expected, want(m, function).table)
		}
		bytes := encoded(t, m)
		for which := range 4 {
			table, _, _ := validate.Function(m, 0)
			spoilTable(table, which)
			if !sameTable(without(table, which), without(expected[0], which)) {
				t.Fatalf("R5: lists of %v share memory", table)
			}
			tables, _, _, _ := validate.Module(m)
			read, readTables, _, _, _ := validate.Bytes(bytes)
			for function := range tables {
				spoilTable(tables[function], which)
				spoilTable(readTables[function], which)
				for i := range tables {
					shown := expected[i]
					if i <= function {
						shown = without(shown, which)
						tables[i], readTables[i] = without(tables[i], which), without(readTables[i], which)
					}
					if !sameTable(tables[i], shown) || !sameTable(readTables[i], shown) {
						t.Fatalf("R5: tables %d and %d share memory", function, i)
					}
				}
			}
			if !sameModule(read, m) {
				t.Fatalf("R5: tables share memory with the module that was read")
			}
		}
		read, tables, _, _, _ := validate.Bytes(bytes)
		spoilModule(read)
		if !slices.EqualFunc(tables, expected, sameTable) {
			t.Fatalf("R5: the module that was read shares memory with its tables")
		}
		hold(t, m)
		read, tables, _, _, _ = validate.Bytes(bytes)
		again, _, _, _ := validate.Module(m)
		spoil(bytes, 0xee)
		if !sameModule(read, m) || !slices.EqualFunc(tables, expected, sameTable) {
			t.Fatalf("R5: answers share memory with the bytes")
		}
		spoilModule(m)
		if !slices.EqualFunc(again, expected, sameTable) {
			t.Fatalf("R5: answers share memory with the module")
		}
	}
}

// TestSpareRoom: the spare room of a list of tables is no table of another answer.
func TestSpareRoom(t *testing.T) {
	m := one("w.const end")
	first, _, _, _ := validate.Module(m)
	second, _, _, _ := validate.Module(m)
	spoil(first, api.Table{Highest: 77})
	if len(second) != 4 || second[0].Highest != 1 || second[3].Highest != 8 {
		t.Errorf("R5: %v", second)
	}
}

// TestNone: a list that is nil and one without elements are the same.
func TestNone(t *testing.T) {
	m := api.Module{Types: []api.Sig{}, Hosts: []int{}, Globals: []api.Global{}, Functions: []api.Function{}, Data: []api.Data{}, Exports: []api.Export{}}
	if tables, e, number, pc := validate.Module(m); len(tables) != 0 || e != api.OK || number != 0 || pc != 0 {
		t.Errorf("R4: %v, %d, %d, %d", tables, e, number, pc)
	}
	m = of(2, "nop end")
	m.Functions[0].Code[0].L = []int{}
	hold(t, m)
	m.Functions[0].Code = []api.Ins{}
	hold(t, m)
	m.Functions[0].Code = nil
	hold(t, m)
	if _, _, e, number, at := validate.Bytes([]byte{}); e != api.ErrMagic || number != -1 || at != 0 {
		t.Errorf("R4: no bytes: %d, %d, %d", e, number, at)
	}
}

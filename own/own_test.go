package own_test

import (
	"reflect"
	"testing"

	"flagon/api"
	"flagon/own"
)

// full is a module with something in each of its lists, and spare room behind each of them.
func full() api.Module {
	return api.Module{
		Types:     append(make([]api.Sig, 0, 9), api.Sig{Params: "w"}, api.Sig{Results: "l"}),
		Hosts:     append(make([]int, 0, 9), 1, 0),
		Globals:   append(make([]api.Global, 0, 9), api.Global{Letter: 'w', Mutable: true, Value: 7}),
		First:     1,
		Most:      2,
		Functions: append(make([]api.Function, 0, 9), api.Function{Type: 1, Locals: "wl", Code: append(make([]api.Ins, 0, 9), api.Ins{Op: 9, A: 1, L: append(make([]int, 0, 9), 3, 4)}, api.Ins{Op: 6})}, api.Function{}),
		Data:      append(make([]api.Data, 0, 9), api.Data{At: 3, B: append(make([]byte, 0, 9), 1, 2)}, api.Data{}),
		Exports:   append(make([]api.Export, 0, 9), api.Export{Name: "f", Function: 1}),
	}
}

func replies() []api.Reply {
	return append(make([]api.Reply, 0, 9), api.Reply{Results: append(make([]uint64, 0, 9), 5, 6)}, api.Reply{Trap: true}, api.Reply{})
}

// spoil writes over a list, spare room too.
func spoil[T any](list []T, v T) {
	list = list[:cap(list)]
	for at := range list {
		list[at] = v
	}
}

func spoilModule(m api.Module) {
	for _, f := range m.Functions {
		for _, x := range f.Code {
			spoil(x.L, 99)
		}
		spoil(f.Code, api.Ins{A: 99})
	}
	for _, d := range m.Data {
		spoil(d.B, 99)
	}
	spoil(m.Types, api.Sig{Params: "99"})
	spoil(m.Hosts, 99)
	spoil(m.Globals, api.Global{Value: 99})
	spoil(m.Functions, api.Function{Type: 99})
	spoil(m.Data, api.Data{At: 99})
	spoil(m.Exports, api.Export{Function: 99})
}

func spoilScript(list []api.Reply) {
	for _, reply := range list {
		spoil(reply.Results, 99)
	}
	spoil(list, api.Reply{Trap: true, Results: []uint64{99}})
}

// same: are they alike, list by list?
func same(t *testing.T, got, want any) {
	t.Helper()
	if !reflect.DeepEqual(got, want) {
		t.Errorf("%+v, not %+v", got, want)
	}
}

// TestModule: a copy is the same, and each of the two stays whatever becomes of the other one.
func TestModule(t *testing.T) {
	one := full()
	other := own.Module(one)
	same(t, other, full())
	spoilModule(one)
	same(t, other, full())
	one = full()
	spoilModule(own.Module(one))
	same(t, one, full())
	same(t, own.Module(api.Module{}), api.Module{})
}

// TestScript: likewise.
func TestScript(t *testing.T) {
	one := replies()
	other := own.Script(one)
	same(t, other, replies())
	spoilScript(one)
	same(t, other, replies())
	one = replies()
	spoilScript(own.Script(one))
	same(t, one, replies())
	if len(own.Script(nil)) != 0 {
		t.Error("replies of none")
	}
}

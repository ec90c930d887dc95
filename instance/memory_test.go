package instance_test

import (
	"bytes"
	"math/rand"
	"slices"
	"testing"

	"flagon/api"
	"flagon/instance"
)

// roomy is a list of its own with spare room that has v in it.
func roomy[T any](list []T, v T) []T {
	return append(slices.Clone(list), v, v, v)[:len(list)]
}

// whole is a list with its spare room, in memory of its own.
func whole[T any](list []T) []T {
	return slices.Clone(list[:cap(list)])
}

// spoil writes over a list, spare room too.
func spoil[T any](list []T, v T) {
	list = list[:cap(list)]
	for at := range list {
		list[at] = v
	}
}

// roomyModule is the same module in memory of its own, in lists that have spare room.
func roomyModule(m api.Module) api.Module {
	m.Types, m.Hosts, m.Globals = roomy(m.Types, api.Sig{Params: "77"}), roomy(m.Hosts, 77), roomy(m.Globals, api.Global{Letter: 77, Value: 77})
	m.Functions, m.Data, m.Exports = roomy(m.Functions, api.Function{Type: 77}), roomy(m.Data, api.Data{At: 77, B: []byte{77}}), roomy(m.Exports, api.Export{Name: "77"})
	for i := range m.Functions {
		code := roomy(m.Functions[i].Code, api.Ins{Op: 0x77})
		for pc := range code {
			code[pc].L = roomy(code[pc].L, 77)
		}
		m.Functions[i].Code = code
	}
	for i := range m.Data {
		m.Data[i].B = roomy(m.Data[i].B, 77)
	}
	return m
}

// wholeModule is a module with all spare room, in memory of its own.
func wholeModule(m api.Module) api.Module {
	m.Types, m.Hosts, m.Globals, m.Functions, m.Data, m.Exports = whole(m.Types), whole(m.Hosts), whole(m.Globals), whole(m.Functions), whole(m.Data), whole(m.Exports)
	for i := range m.Functions {
		code := whole(m.Functions[i].Code)
		for pc := range code {
			code[pc].L = whole(code[pc].L)
		}
		m.Functions[i].Code = code
	}
	for i := range m.Data {
		m.Data[i].B = whole(m.Data[i].B)
	}
	return m
}

// spoilModule writes over all lists of a module, the inner ones first.
func spoilModule(m api.Module) {
	for _, f := range m.Functions {
		spoil(f.Code, api.Ins{Op: 0x99})
	}
	for _, d := range m.Data {
		spoil(d.B, 99)
	}
	spoil(m.Types, api.Sig{Params: "99"})
	spoil(m.Hosts, 99)
	spoil(m.Globals, api.Global{Letter: 99, Value: 99})
	spoil(m.Functions, api.Function{Type: 99})
	spoil(m.Data, api.Data{At: 99})
	spoil(m.Exports, api.Export{Name: "99"})
}

func sameIns(a, b api.Ins) bool {
	return a.Op == b.Op && a.A == b.A && slices.Equal(a.L, b.L)
}

func sameFunction(a, b api.Function) bool {
	return a.Type == b.Type && a.Locals == b.Locals && slices.EqualFunc(a.Code, b.Code, sameIns)
}

func sameData(a, b api.Data) bool {
	return a.At == b.At && bytes.Equal(a.B, b.B)
}

func sameModule(a, b api.Module) bool {
	return slices.Equal(a.Types, b.Types) && slices.Equal(a.Hosts, b.Hosts) && slices.Equal(a.Globals, b.Globals) && a.First == b.First && a.Most == b.Most &&
		slices.EqualFunc(a.Functions, b.Functions, sameFunction) && slices.EqualFunc(a.Data, b.Data, sameData) && slices.Equal(a.Exports, b.Exports)
}

// numbers: the lists of numbers of a state.
func numbers(s *api.State) []*[]uint64 {
	out := []*[]uint64{&s.Results, &s.Globals}
	for at := range s.Frames {
		out = append(out, &s.Frames[at].Locals, &s.Frames[at].Stack)
	}
	return out
}

// spoilState writes over all lists of a state, the inner ones first.
func spoilState(s api.State) {
	for _, p := range s.Pages {
		spoil(p, 99)
	}
	for _, list := range numbers(&s) {
		spoil(*list, 99)
	}
	spoil(s.Pages, []byte{99})
	spoil(s.Frames, api.Frame{Function: 99, Stack: []uint64{99}})
}

// call is a beginning to be asked for.
type call struct {
	m    api.Module
	name string
	args []uint64
}

// calls: of the module of many things, of the example, and of drawn ones, each of their exports.
func calls(t *testing.T) []call {
	t.Helper()
	list := []call{{example(t), "f;", []uint64{5}}, {paged(64, 64, api.Data{At: 3*size - 9, B: filled(3 * size)}), "f", nil}}
	r := rand.New(rand.NewSource(214))
	modules := []api.Module{rich(t)}
	for range 60 {
		modules = append(modules, drawnModule(r))
	}
	for _, m := range modules {
		for _, x := range m.Exports {
			params := m.Types[m.Functions[x.Function].Type].Params
			args := make([]uint64, len(params))
			for at := range args {
				args[at] = drawnValue(r, params[at])
			}
			list = append(list, call{m, x.Name, args})
		}
	}
	return list
}

func (c call) begin(t *testing.T) api.State {
	t.Helper()
	s, e := instance.Begin(c.m, c.name, c.args)
	if e != api.OK {
		t.Fatalf("P21.2: Begin of %q with %v: %d", c.name, c.args, e)
	}
	return s
}

// roomy: the same call in memory of its own that has spare room, filled with what must not be seen.
func (c call) roomy() call {
	return call{roomyModule(c.m), c.name, roomy(c.args, 77)}
}

// TestHanded: what is handed in is not changed, nor its spare room, whatever is done to the answers; and spare room is not seen.
func TestHanded(t *testing.T) {
	for _, plain := range calls(t) {
		c := plain.roomy()
		m, args := wholeModule(c.m), whole(c.args)
		begins(t, c.m, c.name, c.args...)
		s := c.begin(t)
		if !identical(s, plain.begin(t)) {
			t.Fatalf("R5: Begin of %q sees spare room: %s", c.name, told(s))
		}
		spoilState(s)
		unsigned(t, c.m, "none", api.ErrExport)
		refused(t, c.m, "none", c.args, api.ErrExport)
		refused(t, c.m, c.name, c.args[:cap(c.args)], api.ErrParams)
		if !sameModule(wholeModule(c.m), m) || !slices.Equal(whole(c.args), args) {
			t.Fatalf("R5: Begin of %q changes what is handed in", c.name)
		}
	}
}

// TestAnswered: what is answered stays, whatever becomes of the module and of the arguments.
func TestAnswered(t *testing.T) {
	for _, plain := range calls(t) {
		c := plain.roomy()
		s := c.begin(t)
		x, _ := instance.Signature(c.m, c.name)
		spoilModule(c.m)
		spoil(c.args, 99)
		if !identical(s, begun(plain.m, plain.name, plain.args)) {
			t.Fatalf("R5: what Begin of %q answers shares memory with what was handed in: %s", c.name, told(s))
		}
		if x != plain.m.Types[plain.m.Functions[numberOf(plain.m, plain.name)].Type] {
			t.Fatalf("R5: what Signature of %q answers shares memory with the module: %q", c.name, x)
		}
	}
}

// TestTwo: two beginnings know nothing of each other, of one module or of several, nor does the module know of them.
func TestTwo(t *testing.T) {
	list := calls(t)
	for at, c := range list {
		want := begun(c.m, c.name, c.args)
		first, second := c.begin(t), c.begin(t)
		list[(at+1)%len(list)].begin(t)
		spoilState(first)
		if !identical(second, want) {
			t.Fatalf("R6: two beginnings of %q share memory: %s", c.name, told(second))
		}
		third := c.begin(t)
		spoilState(second)
		if !identical(third, want) || !identical(c.begin(t), want) {
			t.Fatalf("R6: a beginning of %q hangs on an earlier one: %s", c.name, told(third))
		}
	}
}

// TestAlone: no two lists of an answer share memory, spare room neither.
func TestAlone(t *testing.T) {
	for _, c := range calls(t) {
		want := begun(c.m, c.name, c.args)
		for at := range numbers(&want) {
			s := c.begin(t)
			spoil(*numbers(&s)[at], 99)
			*numbers(&s)[at] = slices.Clone(*numbers(&want)[at])
			if !identical(s, want) {
				t.Fatalf("R5: the list %d shares memory with another one: %s", at, told(want))
			}
		}
		grown(t, c.begin(t))
	}
}

// grown: what is put behind one list of a state is not seen behind another one, nor in it.
func grown(t *testing.T, s api.State) {
	t.Helper()
	var long [][]uint64
	for at, list := range numbers(&s) {
		long = append(long, append(*list, uint64(1000+at)))
	}
	for at, list := range long {
		if list[len(list)-1] != uint64(1000+at) {
			t.Fatalf("R5: the spare room of the list %d is another one's, too: %s", at, told(s))
		}
	}
}

// TestPagesAlone: no page reaches into another one, not by its spare room either.
func TestPagesAlone(t *testing.T) {
	for _, c := range calls(t) {
		want := begun(c.m, c.name, c.args)
		for k := range want.Pages {
			s := c.begin(t)
			spoil(s.Pages[k], 99)
			s.Pages[k] = want.Pages[k]
			if !identical(s, want) {
				t.Fatalf("R5: the page %d shares memory with another list: %s", k, told(s))
			}
			s = c.begin(t)
			if longer := append(s.Pages[k], bytes.Repeat([]byte{99}, 2*size)...); len(longer) != 3*size || !identical(s, want) {
				t.Fatalf("R5: what is put behind the page %d lies in another one: %s", k, told(s))
			}
		}
		s := c.begin(t)
		_ = append(s.Pages, []byte{99})
		_ = append(s.Frames, api.Frame{Function: 99})
		if !identical(s, want) {
			t.Fatalf("R5: a list of Begin of %q has its spare room in another one", c.name)
		}
	}
}

// TestArgumentsShared: arguments that share memory with other ones, or with an earlier answer, are as any others.
func TestArgumentsShared(t *testing.T) {
	args := []uint64{1, 2, 3, 4}
	m := rich(t)
	first, _ := instance.Begin(m, "ab", args[:2])
	second, _ := instance.Begin(m, "ab", args[1:3])
	first.Frames[0].Locals[1] = 99
	if !slices.Equal(second.Frames[0].Locals, []uint64{2, 3, 0, 0, 0}) || !slices.Equal(args, []uint64{1, 2, 3, 4}) {
		t.Errorf("R5: %v of %v", second.Frames[0].Locals, args)
	}
	again, e := instance.Begin(m, "ab", first.Frames[0].Locals[:2])
	again.Frames[0].Locals[0] = 55
	if e != api.OK || first.Frames[0].Locals[0] != 1 {
		t.Errorf("R5: what an answer holds, handed in again, is changed: %v, %d", first.Frames[0].Locals, e)
	}
}

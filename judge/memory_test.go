package judge_test

import (
	"math/rand"
	"slices"
	"sync"
	"testing"

	"flagon/api"
	"flagon/judge"
)

// roomy is a list with spare room that has v in it.
func roomy[T any](list []T, v T) []T {
	return append(slices.Clone(list), v, v, v)[:len(list)]
}

// whole is a list with its spare room.
func whole[T any](list []T) []T {
	return slices.Clone(list[:cap(list)])
}

// roomyModule is the same module, in lists that have spare room.
func roomyModule(m api.Module) api.Module {
	m.Types, m.Hosts, m.Globals, m.Functions = roomy(m.Types, api.Sig{Params: "77"}), roomy(m.Hosts, 77), roomy(m.Globals, api.Global{Letter: 77}), roomy(m.Functions, api.Function{Type: 77})
	m.Data, m.Exports = roomy(m.Data, api.Data{At: 77}), roomy(m.Exports, api.Export{Name: "77"})
	for i := range m.Functions {
		f := &m.Functions[i]
		f.Code = roomy(f.Code, api.Ins{Op: 0x77})
		for at := range f.Code {
			f.Code[at].L = roomy(f.Code[at].L, 77)
		}
	}
	for i := range m.Data {
		m.Data[i].B = roomy(m.Data[i].B, 77)
	}
	return m
}

// wholeModule is a module with all spare room.
func wholeModule(m api.Module) api.Module {
	m.Types, m.Hosts, m.Globals, m.Functions, m.Data, m.Exports = whole(m.Types), whole(m.Hosts), whole(m.Globals), whole(m.Functions), whole(m.Data), whole(m.Exports)
	for i := range m.Functions {
		f := &m.Functions[i]
		f.Code = whole(f.Code)
		for at := range f.Code {
			f.Code[at].L = whole(f.Code[at].L)
		}
	}
	for i := range m.Data {
		m.Data[i].B = whole(m.Data[i].B)
	}
	return m
}

func sameModule(a, b api.Module) bool {
	code := func(x, y api.Ins) bool { return x.Op == y.Op && x.A == y.A && slices.Equal(x.L, y.L) }
	function := func(x, y api.Function) bool {
		return x.Type == y.Type && x.Locals == y.Locals && slices.EqualFunc(x.Code, y.Code, code)
	}
	data := func(x, y api.Data) bool { return x.At == y.At && slices.Equal(x.B, y.B) }
	return slices.Equal(a.Types, b.Types) && slices.Equal(a.Hosts, b.Hosts) && slices.Equal(a.Globals, b.Globals) && a.First == b.First && a.Most == b.Most && slices.EqualFunc(a.Functions, b.Functions, function) && slices.EqualFunc(a.Data, b.Data, data) && slices.Equal(a.Exports, b.Exports)
}

// TestArguments: neither the module nor the shapes are changed, spare room neither, whatever is answered; and two calls answer the same, whatever was asked between them.
func TestArguments(t *testing.T) {
	r := rand.New(rand.NewSource(114))
	for n := range 400 {
		m, all := drawn(r)
		m.Data, m.First, m.Most = []api.Data{{At: 3, B: []byte{1, 2}}}, 1, 1
		if n%3 == 0 && len(m.Functions[0].Code) > 1 {
			m.Functions[0].Code, all[0] = changed(r, m.Functions[0].Code, all[0])
		}
		m = roomyModule(m)
		before := wholeModule(m)
		for function := -1; function <= len(all); function++ {
			for _, shapes := range append(all, otherShapes(r, all[0]), nil) {
				shapes = roomy(shapes, "77")
				texts := whole(shapes)
				first := judge.Holds(m, function, shapes)
				judge.Holds(m, 0, all[0])
				judge.Holds(m, 0, nil)
				if judge.Holds(m, function, shapes) != first || judge.Holds(m, function, slices.Clone(shapes)) != first {
					t.Fatalf("R6: function %d, of %q: %t, then not", function, shapes, first)
				}
				if !slices.Equal(whole(shapes), texts) {
					t.Fatalf("R5: %q is changed", shapes)
				}
			}
		}
		if !sameModule(wholeModule(m), before) {
			t.Fatalf("R5: %v is changed", m)
		}
	}
}

// TestAtOnce: calls on the same module and shapes know nothing of each other.
func TestAtOnce(t *testing.T) {
	m, shapes := of(1, "get:0 loop:1 w.const w.sub tee:0 get:0 brif:0 end end"), shapesOf(". w w ww w w ww w w")
	lists := append(near(shapes), shapes)
	answers := make([]bool, len(lists))
	var all sync.WaitGroup
	for i, list := range lists {
		all.Go(func() { answers[i] = judge.Holds(m, 0, list) })
	}
	all.Wait()
	for i, answer := range answers {
		if answer != (i == len(lists)-1) {
			t.Errorf("R6: of %q: %t", lists[i], answer)
		}
	}
}

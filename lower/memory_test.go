package lower_test

import (
	"math/rand"
	"slices"
	"testing"

	"flagon/api"
	"flagon/lower"
)

// roomy is a list of its own with spare room that has v in it.
func roomy[T any](list []T, v T) []T {
	return append(slices.Clone(list), v, v, v)[:len(list)]
}

// whole is a list with its spare room, in memory of its own.
func whole[T any](list []T) []T {
	return slices.Clone(list[:cap(list)])
}

// spoil writes over a list, spare room too.
func spoil[T any](list []T, v T) {
	list = list[:cap(list)]
	for at := range list {
		list[at] = v
	}
}

// roomyModule is the same module, in lists that have spare room.
func roomyModule(m api.Module) api.Module {
	m.Types, m.Hosts, m.Globals, m.Functions = roomy(m.Types, api.Sig{Params: "77"}), roomy(m.Hosts, 77), roomy(m.Globals, api.Global{Letter: 77}), roomy(m.Functions, api.Function{Type: 77})
	m.Data, m.Exports = roomy(m.Data, api.Data{At: 77}), roomy(m.Exports, api.Export{Function: 77})
	for at := range m.Data {
		m.Data[at].B = roomy(m.Data[at].B, 77)
	}
	for at := range m.Functions {
		code := roomy(m.Functions[at].Code, api.Ins{Op: 0x77})
		for pc := range code {
			code[pc].L = roomy(code[pc].L, 77)
		}
		m.Functions[at].Code = code
	}
	return m
}

// wholeModule is a module with all spare room, in memory of its own.
func wholeModule(m api.Module) api.Module {
	m.Types, m.Hosts, m.Globals, m.Functions = whole(m.Types), whole(m.Hosts), whole(m.Globals), whole(m.Functions)
	m.Data, m.Exports = whole(m.Data), whole(m.Exports)
	for at := range m.Data {
		m.Data[at].B = whole(m.Data[at].B)
	}
	for at := range m.Functions {
		code := whole(m.Functions[at].Code)
		for pc := range code {
			code[pc].L = whole(code[pc].L)
		}
		m.Functions[at].Code = code
	}
	return m
}

func sameIns(a, b api.Ins) bool {
	return a.Op == b.Op && a.A == b.A && slices.Equal(a.L, b.L)
}

func sameFunction(a, b api.Function) bool {
	return a.Type == b.Type && a.Locals == b.Locals && slices.EqualFunc(a.Code, b.Code, sameIns)
}

func sameModule(a, b api.Module) bool {
	return slices.Equal(a.Types, b.Types) && slices.Equal(a.Hosts, b.Hosts) && slices.Equal(a.Globals, b.Globals) && a.First == b.First && a.Most == b.Most &&
		slices.EqualFunc(a.Functions, b.Functions, sameFunction) && slices.Equal(a.Exports, b.Exports) &&
		slices.EqualFunc(a.Data, b.Data, func(x, y api.Data) bool { return x.At == y.At && slices.Equal(x.B, y.B) })
}

// spoilModule writes over all lists of a module, the inner ones first.
func spoilModule(m api.Module) {
	for _, f := range m.Functions {
		for _, x := range f.Code {
			spoil(x.L, 99)
		}
		spoil(f.Code, api.Ins{Op: 0x99, A: 99})
	}
	spoil(m.Types, api.Sig{Results: "99"})
	spoil(m.Hosts, 99)
	spoil(m.Globals, api.Global{Letter: 99})
	spoil(m.Functions, api.Function{Type: 99})
	spoil(m.Exports, api.Export{Function: 99})
	spoil(m.Data, api.Data{At: 99})
}

// spoilLines writes over all lists of a function's lines, the inner ones first.
func spoilLines(lines []lower.Line) {
	for _, l := range lines {
		spoil(l.Ways, lower.Way{To: 99, Keep: 99, Floor: 99})
	}
	spoil(lines, lower.Line{Op: 0x99, A: 99, Ways: []lower.Way{{To: 99}}, Start: 99, Left: 99})
}

func cloned(all [][]lower.Line) [][]lower.Line {
	out := slices.Clone(all)
	for f := range out {
		out[f] = slices.Clone(out[f])
		for pc := range out[f] {
			out[f][pc].Ways = slices.Clone(out[f][pc].Ways)
		}
	}
	return out
}

// handed are modules to be asked of, some of which may not run.
func handed() []api.Module {
	r := rand.New(rand.NewSource(183))
	list := []api.Module{{}, rich(), of(">", "", "loop:> br:0 end end"), of(">", "", "w.const brtable:0,0,0,0,0 end")}
	for _, change := range faults() {
		m := rich()
		change(&m)
		list = append(list, m)
	}
	for range 120 {
		list = append(list, drawnModule(r, 60))
	}
	return list
}

// both: what the calls answer, Module's functions first.
func both(m api.Module) [][]lower.Line {
	all, _ := lower.Module(m)
	for f := -1; f <= len(m.Functions); f++ {
		lines, _ := lower.Function(m, f)
		all = append(all, lines)
	}
	return all
}

// TestHanded: what is handed in is not changed, nor its spare room, whatever is done to the answers.
func TestHanded(t *testing.T) {
	for _, x := range handed() {
		m := roomyModule(x)
		before := wholeModule(m)
		for _, lines := range both(m) {
			spoilLines(lines)
		}
		if !sameModule(wholeModule(m), before) {
			t.Fatalf("R5: what is handed in is changed: %v", x)
		}
	}
}

// TestAnswered: what is answered stays, whatever becomes of what was handed in, and of other answers.
func TestAnswered(t *testing.T) {
	for _, x := range handed() {
		m := roomyModule(x)
		got, want := both(m), cloned(both(x))
		for _, lines := range both(m) {
			spoilLines(lines)
		}
		spoilModule(m)
		if !sameAll(got, want) {
			t.Fatalf("R5: an answer shares memory with what was handed in, or with another answer: %v", x)
		}
	}
}

// TestAlone: no two lists of an answer share memory, spare room neither.
func TestAlone(t *testing.T) {
	for _, x := range append(handed()[:4], handed()[100:]...) {
		want, _ := lower.Module(x)
		want = cloned(want)
		got, _ := lower.Module(x)
		for f, lines := range got {
			for pc := range lines {
				kept := lines[pc].Ways
				spoil(kept, lower.Way{To: 99, Keep: 99, Floor: 99})
				lines[pc].Ways = slices.Clone(want[f][pc].Ways)
				if !sameLines(lines, want[f]) {
					t.Fatalf("R5: the ways at %d share memory with others: %s", pc, told(x, f))
				}
			}
			if !sameAll(got, want) {
				t.Fatalf("R5: the function %d shares memory with another one", f)
			}
			spoil(lines, lower.Line{Op: 0x99})
			got[f] = cloned(want)[f]
			if !sameAll(got, want) {
				t.Fatalf("R5: the lines of the function %d share memory with those of another one", f)
			}
		}
	}
}

// TestGrown: what is put behind one list of an answer is not seen behind another one.
func TestGrown(t *testing.T) {
	for _, x := range append(handed()[:4], handed()[100:]...) {
		got, _ := lower.Module(x)
		var long [][]lower.Way
		for _, lines := range got {
			for _, l := range lines {
				long = append(long, append(l.Ways, lower.Way{To: 1000 + len(long)}))
			}
		}
		for at, ways := range long {
			if ways[len(ways)-1].To != 1000+at {
				t.Fatalf("R5: the spare room of the list %d is another one's, too", at)
			}
		}
		var lines [][]lower.Line
		for f := range got {
			lines = append(lines, append(got[f], lower.Line{Start: 1000 + f}))
		}
		for f := range lines {
			if lines[f][len(got[f])].Start != 1000+f {
				t.Fatalf("R5: the spare room of the function %d is another one's, too", f)
			}
		}
	}
}

// TestAgain: a call's answer hangs on its arguments alone, whatever was called between.
func TestAgain(t *testing.T) {
	list := handed()
	for at, x := range list {
		first := both(x)
		both(list[(at+1)%len(list)])
		if !sameAll(both(x), first) {
			t.Fatalf("R6: another answer of %v", x)
		}
	}
}

// TestNone: a list that is nil and one without elements are the same.
func TestNone(t *testing.T) {
	a := of(">", "", "loop:> w.const brif:0 end end")
	b := roomyModule(a)
	b.Hosts, b.Globals, b.Data, b.Exports = []int{}, []api.Global{}, []api.Data{}, []api.Export{}
	for pc := range b.Functions[0].Code {
		b.Functions[0].Code[pc].L = []int{}
	}
	if !sameAll(both(a), both(b)) {
		t.Errorf("R4: %v, not %v", both(b), both(a))
	}
}

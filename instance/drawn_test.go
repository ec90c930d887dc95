package instance_test

import (
	"math/rand"
	"slices"
	"strings"
	"testing"

	"flagon/api"
	"flagon/frame"
	"flagon/instance"
	"flagon/slow"
	"flagon/text"
)

func drawnLetters(r *rand.Rand, most int) string {
	out := ""
	for range r.Intn(most + 1) {
		out += string("wl"[r.Intn(2)])
	}
	return out
}

// drawnValue: one of that letter, often at an end of its range.
func drawnValue(r *rand.Rand, letter byte) uint64 {
	v := []uint64{0, 1, 1<<64 - 1, high, high - 1, r.Uint64()}[r.Intn(6)]
	if letter == 'w' {
		v %= high
	}
	return v
}

// drawnArgs: values for those letters; some of them do not fit, and some are too many or too few.
func drawnArgs(r *rand.Rand, letters string) []uint64 {
	var list []uint64
	for at := range letters {
		list = append(list, drawnValue(r, letters[at]))
	}
	switch r.Intn(6) {
	case 0:
		list = append(list, 0)
	case 1:
		list = list[:len(list)/2]
	case 2:
		for at := range list {
			list[at] = r.Uint64() >> r.Intn(64)
		}
	}
	return list
}

// drawnData: data that lies in so many pages.
func drawnData(r *rand.Rand, first int) []api.Data {
	var list []api.Data
	at := r.Intn(20)
	for range r.Intn(8) {
		if r.Intn(2) == 0 {
			at = (at/size+1)*size - r.Intn(3)
		}
		b := filled([]int{1 + r.Intn(4), 1 + r.Intn(300), 1 + r.Intn(2*size)}[r.Intn(3)])
		if at+len(b) > first*size {
			break
		}
		list = append(list, api.Data{At: at, B: b})
		at += len(b) + 1 + r.Intn(9)
	}
	return list
}

// drawnModule is a module that may run, with exports; its code calls other functions and leaves its results.
func drawnModule(r *rand.Rand) api.Module {
	first := r.Intn(4)
	m := api.Module{Types: []api.Sig{{}}, First: first, Most: first + r.Intn(3), Data: drawnData(r, first)}
	for range r.Intn(6) {
		x := api.Sig{Params: drawnLetters(r, 8), Results: drawnLetters(r, 8)}
		if !slices.Contains(m.Types, x) {
			m.Types = append(m.Types, x)
		}
	}
	for range r.Intn(8) {
		letter := "wl"[r.Intn(2)]
		m.Globals = append(m.Globals, api.Global{Letter: letter, Mutable: r.Intn(2) == 0, Value: drawnValue(r, letter)})
	}
	for range 1 + r.Intn(5) {
		f := api.Function{Type: r.Intn(len(m.Types)), Locals: drawnLetters(r, []int{0, 3, 56}[r.Intn(3)])}
		if n := len(m.Functions); n > 0 && r.Intn(2) == 0 {
			callee := r.Intn(n)
			x := m.Types[m.Functions[callee].Type]
			f.Code = constants(x.Params)
			f.Code[len(f.Code)-1] = api.Ins{Op: 0x0b, A: int64(callee)}
			f.Code = append(f.Code, slices.Repeat([]api.Ins{{Op: 0x10}}, len(x.Results))...)
		}
		f.Code = append(f.Code, constants(m.Types[f.Type].Results)...)
		m.Functions = append(m.Functions, f)
	}
	names := map[string]bool{}
	for range r.Intn(9) {
		name := ""
		for range 1 + r.Intn(3) {
			name += string("ab!~"[r.Intn(4)])
		}
		if !names[name] {
			names[name] = true
			m.Exports = append(m.Exports, api.Export{Name: name, Function: r.Intn(len(m.Functions))})
		}
	}
	slices.SortFunc(m.Exports, func(a, b api.Export) int { return strings.Compare(a.Name, b.Name) })
	return m
}

// TestDrawn: of drawn modules each export, and names that are none's, with arguments that fit and with others.
func TestDrawn(t *testing.T) {
	r := rand.New(rand.NewSource(212))
	began, none, bad := 0, 0, 0
	for range 500 {
		m := drawnModule(r)
		for _, name := range []string{"a", "b", "!", "~", "ab", "aa", "a!", "~~", "", "c", "aab", "!!!", "~a~"} {
			number := numberOf(m, name)
			if number < 0 {
				none++
				unsigned(t, m, name, api.ErrExport)
				refused(t, m, name, drawnArgs(r, drawnLetters(r, 3)), api.ErrExport)
				continue
			}
			x := m.Types[m.Functions[number].Type]
			isOf(t, m, name, x)
			for range 4 {
				args := drawnArgs(r, x.Params)
				if fit(args, x.Params) {
					began++
					begins(t, m, name, args...)
				} else {
					bad++
					refused(t, m, name, args, api.ErrParams)
				}
			}
		}
	}
	if began < 500 || none < 500 || bad < 300 {
		t.Errorf("the drawing is too thin: %d begun, %d without an export, %d with arguments that do not fit", began, none, bad)
	}
}

// TestGoesOn: what Begin answers goes on, step by step, from state that may be to state that may be, to its end.
func TestGoesOn(t *testing.T) {
	r := rand.New(rand.NewSource(213))
	for range 60 {
		m := drawnModule(r)
		for _, x := range m.Exports {
			kind := m.Types[m.Functions[x.Function].Type]
			s, e := instance.Begin(m, x.Name, make([]uint64, len(kind.Params)))
			for n := 0; e == api.OK && s.End == suspended; n++ {
				if e, place := frame.Check(m, s); e != api.OK {
					t.Fatalf("what follows: frame.Check: %d, %d, of %s", e, place, told(s))
				}
				if s.Used != int64(n) {
					t.Fatalf("P21.2: used %d behind %d steps", s.Used, n)
				}
				s, e = slow.Run(m, nil, s, 1)
			}
			if e != api.OK || len(s.Results) != len(kind.Results) {
				t.Fatalf("what follows: %d, %s", e, told(s))
			}
		}
	}
}

// TestWhole: those of the document's examples of the whole that begin and run.
func TestWhole(t *testing.T) {
	for _, x := range []struct {
		source, name string
		args         []uint64
		script       []api.Reply
		result       uint64
		used         int64
	}{
		{"flagon\ntype - -> w\nmemory 1 2\nfunc 0 -\n  w.const 5\n  end\nexport main 0\n", "main", nil, nil, 5, 2},
		{"flagon\ntype - -> -\ntype w -> w\nmemory 0 0\nfunc 1 -\n  loop 0\n    get 0\n    w.const 1\n    w.sub\n    tee 0\n    brif 0\n  end\n  w.const 7\n  end\nexport down 0\n", "down", []uint64{3}, nil, 7, 19},
		{"flagon\ntype ww -> w\nmemory 0 0\nfunc 0 -\n  get 0\n  get 1\n  w.divs\n  end\nexport div 0\n", "div", []uint64{7, 4294967294}, nil, 4294967293, 4},
		{"flagon\ntype l -> l\ntype - -> l\nmemory 0 0\nfunc 0 -\n  get 0\n  l.eqz\n  if 1\n    l.const 1\n  else\n    get 0\n    get 0\n    l.const 1\n    l.sub\n    call 0\n    l.mul\n  end\n  end\nexport fact 0\n", "fact", []uint64{5}, nil, 120, 62},
		{"flagon\ntype - -> w\nmemory 1 2\nfunc 0 -\n  w.const 8\n  w.const -2\n  w.store 4\n  w.const 1\n  grow\n  end\ndata 16 07ff\nexport main 0\n", "main", nil, nil, 1, 6},
		{"flagon\ntype w -> w\nextern 0\nmemory 0 0\nfunc 0 -\n  get 0\n  host 0\n  host 0\n  end\nexport ask 0\n", "ask", []uint64{1}, []api.Reply{{Results: []uint64{5}}, {Results: []uint64{6}}}, 6, 4},
	} {
		m, e, _ := text.Parse(x.source)
		if e != api.OK {
			t.Fatal(e)
		}
		begins(t, m, x.name, x.args...)
		s, _ := instance.Begin(m, x.name, x.args)
		s, e = slow.Run(m, x.script, s, 1000)
		if e != api.OK || s.Used != x.used || !slices.Equal(s.Results, []uint64{x.result}) {
			t.Errorf("%s: %d, %s", x.name, e, told(s))
		}
	}
}

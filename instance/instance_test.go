package instance_test

import (
	"math"
	"slices"
	"strings"
	"testing"

	"flagon/api"
	"flagon/instance"
)

// example is chapter 6's module with a w more ahead of its brtable, without which it may not run.
func example(t *testing.T) api.Module {
	t.Helper()
	return read(t, "flagon\ntype w -> w\nglobal l const -1\nmemory 1 1\nfunc 0 l\nget 0\nw.const 0\nbrtable 0 0\nend\ndata 16 07\nexport f; 0\n")
}

// TestExamples: the chapter's.
func TestExamples(t *testing.T) {
	m := example(t)
	isOf(t, m, "f;", api.Sig{Params: "w", Results: "w"})
	unsigned(t, m, "g", api.ErrExport)
	page := make([]byte, size)
	page[16] = 7
	is(t, m, "f;", []uint64{5}, api.State{Frames: []api.Frame{{Function: 0, Pc: 0, Locals: []uint64{5, 0}}}, Globals: []uint64{math.MaxUint64}, Pages: [][]byte{page}, End: suspended})
	for _, args := range [][]uint64{nil, {}, {high}, {1, 2}} {
		refused(t, m, "f;", args, api.ErrParams)
	}
}

// TestExampleAsWritten: chapter 6's own module lacks a w at its brtable, so that it may be told, but not run.
func TestExampleAsWritten(t *testing.T) {
	m := example(t)
	m.Functions[0].Code = slices.Delete(m.Functions[0].Code, 1, 2)
	unsigned(t, m, "f;", api.ErrStack)
	refused(t, m, "f;", []uint64{5}, api.ErrStack)
}

// TestExports: each name is that of its own function, several names of one function, and not in the order of the functions.
func TestExports(t *testing.T) {
	m := rich(t)
	for name, want := range map[string]api.Sig{"a": {}, "ab": {Params: "wl", Results: "lw"}, "abc": {Params: "w", Results: "w"}, "b": {Params: "wl", Results: "lw"}, "z": {Results: "l"}} {
		isOf(t, m, name, want)
	}
	memory := [][]byte{make([]byte, size), make([]byte, size)}
	memory[0][16], memory[0][17], memory[0][4094], memory[0][4095], memory[1][0], memory[1][1] = 7, 255, 1, 2, 3, 4
	for _, x := range []struct {
		name         string
		args, locals []uint64
		function     int
	}{
		{"a", nil, nil, 2},
		{"ab", []uint64{3, 1 << 40}, []uint64{3, 1 << 40, 0, 0, 0}, 0},
		{"abc", []uint64{high - 1}, []uint64{high - 1, 0}, 1},
		{"b", []uint64{0, 0}, []uint64{0, 0, 0, 0, 0}, 0},
		{"z", []uint64{}, nil, 3},
	} {
		want := api.State{
			Frames:  []api.Frame{{Function: x.function, Locals: x.locals}},
			Globals: []uint64{5, math.MaxUint64, math.MaxUint64 - 1, high - 7},
			Pages:   memory,
			End:     suspended,
		}
		is(t, m, x.name, x.args, want)
	}
}

// constants is code that leaves a value for each letter.
func constants(letters string) []api.Ins {
	var code []api.Ins
	for at := range letters {
		code = append(code, api.Ins{Op: 0x18 + byte(strings.IndexByte("wl", letters[at])), A: int64(at)})
	}
	return append(code, api.Ins{Op: 0x06})
}

// one is a module of one function, exported as f.
func one(x api.Sig, locals string) api.Module {
	return api.Module{
		Types:     []api.Sig{x},
		Functions: []api.Function{{Locals: locals, Code: constants(x.Results)}},
		Exports:   []api.Export{{Name: "f"}},
	}
}

// lists: values that fit those letters, at the ends of what they can hold.
func lists(letters string) [][]uint64 {
	var out [][]uint64
	for _, v := range []uint64{0, 1, math.MaxInt32, math.MaxInt32 + 1, high - 1, high, high + 1, math.MaxInt64, math.MaxInt64 + 1, math.MaxUint64} {
		list := make([]uint64, len(letters))
		for at := range list {
			list[at] = v - uint64(at)
			if letters[at] == 'w' {
				list[at] %= high
			}
		}
		out = append(out, list)
	}
	return out
}

// TestLocals: parameters and locals behind them, from none to as many as there may be.
func TestLocals(t *testing.T) {
	for _, x := range []api.Sig{{}, {Params: "w"}, {Params: "l"}, {Results: "w"}, {Params: "wl", Results: "l"}, {Params: "lwlw", Results: "ww"}, {Params: "wwwwwwww", Results: "llllllll"}, {Params: "llllllll", Results: "wlwlwlwl"}} {
		for _, count := range []int{0, 1, 2, 7, 55, most64 - len(x.Params)} {
			for _, letter := range []string{"w", "l"} {
				m := one(x, strings.Repeat(letter, count))
				isOf(t, m, "f", x)
				for _, args := range lists(x.Params) {
					begins(t, m, "f", args...)
					if s, _ := instance.Begin(m, "f", args); len(s.Frames[0].Locals) != len(args)+count || len(s.Frames[0].Stack) != 0 {
						t.Fatalf("P21.2: %d arguments and %d locals: %s", len(args), count, told(s))
					}
				}
			}
		}
	}
}

// TestGlobals: from none to as many as there may be, of both letters, of either kind, with first values at the ends.
func TestGlobals(t *testing.T) {
	ends := map[byte][]uint64{
		'w': {0, 1, math.MaxInt32, math.MaxInt32 + 1, high - 2, high - 1},
		'l': {0, 1, math.MaxInt32, high - 1, high, math.MaxInt64, math.MaxInt64 + 1, math.MaxUint64 - 1, math.MaxUint64},
	}
	m := one(api.Sig{}, "")
	for _, mutable := range []bool{false, true} {
		for _, letter := range []byte("wl") {
			for _, v := range ends[letter] {
				m.Globals = append(m.Globals, api.Global{Letter: letter, Mutable: mutable, Value: v})
			}
		}
	}
	whole := slices.Repeat(m.Globals, 3)[:most64]
	for count := range most64 + 1 {
		m.Globals = whole[:count]
		begins(t, m, "f")
	}
	for _, g := range whole {
		m.Globals = []api.Global{g}
		s, e := instance.Begin(m, "f", nil)
		if e != api.OK || !slices.Equal(s.Globals, []uint64{g.Value}) {
			t.Errorf("P21.2: the global %v begins with %v, %d", g, s.Globals, e)
		}
	}
}

// TestManyExports: as many exports as there may be, of as many functions, each of another type than its neighbour; the last function, too.
func TestManyExports(t *testing.T) {
	m := api.Module{}
	for n := range 64 {
		m.Types = append(m.Types, api.Sig{Params: strings.Repeat("w", n%8), Results: strings.Repeat("l", n/8)})
	}
	for n := range 128 {
		number := (n * 5) % 64
		m.Functions = append(m.Functions, api.Function{Type: number, Locals: strings.Repeat("l", n%50), Code: constants(m.Types[number].Results)})
	}
	for n := range most64 {
		name := strings.Repeat("~", n/30) + strings.Repeat("x", n%30) + "!"
		m.Exports = append(m.Exports, api.Export{Name: name, Function: 127 - n})
	}
	slices.SortFunc(m.Exports, func(a, b api.Export) int { return strings.Compare(a.Name, b.Name) })
	for _, x := range m.Exports {
		params := m.Types[m.Functions[x.Function].Type].Params
		for _, args := range lists(params) {
			begins(t, m, x.Name, args...)
		}
	}
}

// TestEveryName: each byte that a name may have, and the longest name.
func TestEveryName(t *testing.T) {
	names := []string{strings.Repeat("n", 32)}
	for c := byte(33); c <= 126; c++ {
		names = append(names, string([]byte{c}))
	}
	for _, name := range names {
		m := one(api.Sig{Params: "l"}, "w")
		m.Exports[0].Name = name
		begins(t, m, name, math.MaxUint64)
	}
}

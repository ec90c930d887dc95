package module_test

import (
	"bytes"
	"math"
	"slices"
	"strings"
	"testing"

	"flagon/api"
	"flagon/module"
)

// takes: m may be, is told as the table says, and is read as itself.
func takes(t *testing.T, name string, m api.Module) {
	t.Helper()
	want := raw(m)
	if e := module.Check(m); e != api.OK {
		t.Errorf("P5.1: %s: Check: %d", name, e)
	}
	if b, e := module.Encode(m); e != api.OK || !bytes.Equal(b, want) {
		t.Errorf("P5.2: %s: Encode: %x, %d, not %x", name, b, e, want)
	}
	if x, e, at := module.Decode(want); e != api.OK || at != 0 || !same(x, m) {
		t.Errorf("P5.3: %s: Decode: %v, %d at %d", name, x, e, at)
	}
}

// refuses: Check and Encode answer that error.
func refuses(t *testing.T, name string, m api.Module, want api.Errno) {
	t.Helper()
	if e := module.Check(m); e != want {
		t.Errorf("P5.1: %s: Check: %d, not %d", name, e, want)
	}
	if b, e := module.Encode(m); e != want || len(b) != 0 {
		t.Errorf("P5.2: %s: Encode: %x, %d, not %d", name, b, e, want)
	}
}

// refusesBytes: Decode answers that error and its place, and nothing beside them.
func refusesBytes(t *testing.T, name string, b []byte, want api.Errno, place int) {
	t.Helper()
	if m, e, at := module.Decode(b); e != want || at != place || !same(m, api.Module{}) {
		t.Errorf("P5.3: %s: Decode: %v, %d at %d, not %d at %d", name, m, e, at, want, place)
	}
}

func TestExamples(t *testing.T) {
	none := head + strings.Repeat("\x00", 8)
	if b, e := module.Encode(api.Module{}); string(b) != none || e != api.OK {
		t.Errorf("P5.2: a module of nothing: %x, %d", b, e)
	}
	if m, e, at := module.Decode([]byte(none)); !same(m, api.Module{}) || e != api.OK || at != 0 {
		t.Errorf("P5.3: a module of nothing: %v, %d at %d", m, e, at)
	}
	refusesBytes(t, "something behind", []byte(none+"\x00"), api.ErrRest, 13)
	refusesBytes(t, "four bytes", []byte("FLGN"), api.ErrMagic, 0)
	refusesBytes(t, "another version", []byte("FLGN\x02"), api.ErrMagic, 0)
	refusesBytes(t, "x", []byte(head+"\x01\x01x\x00"), api.ErrType, 6)
	refusesBytes(t, "two types", []byte(head+"\x02\x00\x00\x00\x00"), api.ErrTwice, 8)
	refusesBytes(t, "a host", []byte(head+"\x00\x01\x00"), api.ErrIndex, 7)
	refusesBytes(t, "Most below First", []byte(head+"\x00\x00\x00\x01\x00"), api.ErrRange, 9)
	want := head + "\x01\x00\x01w" + "\x00" + "\x00" + "\x00\x00" + "\x01\x00\x00\x02\x18\x0a\x06" + "\x00" + "\x01\x01f\x00"
	if b, e := module.Encode(example()); string(b) != want || e != api.OK {
		t.Errorf("P5.2: f: %x, %d", b, e)
	}
	takes(t, "f", example())
	takes(t, "nothing", api.Module{})
	takes(t, "some of all", rich())
}

// TestGreatest: every row of the table with the greatest, and the least, that it may have.
func TestGreatest(t *testing.T) {
	w8, l8 := strings.Repeat("w", 8), strings.Repeat("l", 8)
	long := strings.Repeat("wl", 32)
	sig := []api.Sig{{}}
	takes(t, "types", api.Module{Types: manySigs(64)})
	takes(t, "arity", api.Module{Types: []api.Sig{{Params: w8, Results: l8}, {Params: l8, Results: w8}, {Params: w8}, {Results: w8}}})
	takes(t, "like types", api.Module{Types: []api.Sig{{Params: "w"}, {Results: "w"}, {Params: "w", Results: "w"}, {Params: "ww"}, {}}})
	takes(t, "hosts", api.Module{Types: manySigs(64), Hosts: append(slices.Repeat([]int{0}, 31), 63)})
	takes(t, "globals", api.Module{Globals: manyGlobals(64)})
	for _, v := range []uint64{0, 1, 63, 64, 1<<31 - 1, 1 << 31, 1<<31 + 1, 1<<32 - 1} {
		takes(t, "a w", api.Module{Globals: []api.Global{{Letter: 'w', Value: v}, {Letter: 'w', Mutable: true, Value: v}}})
		takes(t, "an l", api.Module{Globals: []api.Global{{Letter: 'l', Value: v}, {Letter: 'l', Mutable: true, Value: v << 32}}})
	}
	for _, v := range []uint64{1 << 32, 1<<63 - 1, 1 << 63, 1<<63 + 1, math.MaxUint64} {
		takes(t, "an l", api.Module{Globals: []api.Global{{Letter: 'l', Value: v}}})
	}
	for _, p := range [][2]int{{0, 0}, {0, 1}, {0, 64}, {1, 1}, {63, 64}, {64, 64}} {
		takes(t, "pages", api.Module{First: p[0], Most: p[1]})
	}
	takes(t, "functions", api.Module{Types: manySigs(64), Functions: append(make([]api.Function, 127), api.Function{Type: 63})})
	takes(t, "locals", api.Module{Types: sig, Functions: []api.Function{{Locals: long}}})
	takes(t, "locals behind parameters", api.Module{Types: []api.Sig{{Params: w8, Results: w8}}, Functions: []api.Function{{Locals: long[:56]}}})
	takes(t, "code", api.Module{Types: sig, Functions: []api.Function{{Code: nops(2048)}}})
	takes(t, "all code", api.Module{Types: sig, Functions: append(slices.Repeat([]api.Function{{Code: nops(2048)}}, 8), api.Function{})})
	takes(t, "all code, in many", api.Module{Types: sig, Functions: slices.Repeat([]api.Function{{Code: nops(128)}}, 128)})
	takes(t, "data", api.Module{First: 1, Most: 1, Data: manyData(64)})
	takes(t, "data to the end", api.Module{First: 1, Most: 1, Data: []api.Data{{At: 4095, B: []byte{1}}}})
	takes(t, "data of all", api.Module{First: 2, Most: 3, Data: []api.Data{{At: 0, B: make([]byte, 8192)}}})
	takes(t, "data in the last page", api.Module{First: 64, Most: 64, Data: []api.Data{{At: 64*4096 - 2, B: []byte{1, 2}}}})
	takes(t, "data with one byte between", api.Module{First: 1, Most: 1, Data: []api.Data{{At: 0, B: []byte{1, 2, 3}}, {At: 4, B: []byte{5}}}})
	exports := api.Module{Types: sig, Functions: make([]api.Function, 128), Exports: manyExports(64)}
	exports.Exports[63].Function = 127
	takes(t, "exports", exports)
	exports.Exports = []api.Export{{Name: "!"}, {Name: "!!"}, {Name: strings.Repeat("a", 31)}, {Name: strings.Repeat("a", 32)}, {Name: "b"}, {Name: "~"}, {Name: "~!"}, {Name: strings.Repeat("~", 32)}}
	takes(t, "names", exports)
}

// wrong is one thing that may not be: which piece of the bytes it is about, and how a module comes to it.
type wrong struct {
	piece  string
	e      api.Errno
	change func(m *api.Module)
}

// wrongs is in the order of the table, of those about one piece in the order of what is asked of it.
func wrongs() []wrong {
	long, great := strings.Repeat("w", 9), math.MaxInt
	return []wrong{
		{"types", api.ErrMany, func(m *api.Module) { m.Types = append(m.Types, make([]api.Sig, 62)...) }},
		{"type 0 params", api.ErrLong, func(m *api.Module) { m.Types[0].Params = long }},
		{"type 0 params", api.ErrType, func(m *api.Module) { m.Types[0].Params = "x" }},
		{"type 0 params", api.ErrType, func(m *api.Module) { m.Types[0].Params = "wlwlwl\x00l" }},
		{"type 0 params", api.ErrType, func(m *api.Module) { m.Types[0].Params = "é" }},
		{"type 0 results", api.ErrLong, func(m *api.Module) { m.Types[0].Results = long }},
		{"type 0 results", api.ErrType, func(m *api.Module) { m.Types[0].Results = "lllllllW" }},
		{"type 1 params", api.ErrTwice, func(m *api.Module) { m.Types[1] = api.Sig{Params: "w", Results: "w"} }},
		{"type 2 params", api.ErrType, func(m *api.Module) { m.Types[2].Params = "-" }},
		{"type 2 params", api.ErrTwice, func(m *api.Module) { m.Types[2] = api.Sig{} }},
		{"type 2 results", api.ErrLong, func(m *api.Module) { m.Types[2].Results = strings.Repeat("l", 300) }},
		{"hosts", api.ErrMany, func(m *api.Module) { m.Hosts = append(m.Hosts, make([]int, 31)...) }},
		{"host 0", api.ErrIndex, func(m *api.Module) { m.Hosts[0] = 3 }},
		{"host 0", api.ErrIndex, func(m *api.Module) { m.Hosts[0] = -1 }},
		{"host 1", api.ErrIndex, func(m *api.Module) { m.Hosts[1] = great }},
		{"host 1", api.ErrIndex, func(m *api.Module) { m.Hosts[1] = math.MinInt }},
		{"globals", api.ErrMany, func(m *api.Module) { m.Globals = append(m.Globals, make([]api.Global, 62)...) }},
		{"global 0 letter", api.ErrType, func(m *api.Module) { m.Globals[0].Letter = 'x' }},
		{"global 0 letter", api.ErrType, func(m *api.Module) { m.Globals[0].Letter = 0 }},
		{"global 0 value", api.ErrRange, func(m *api.Module) { m.Globals[0].Value = 1 << 32 }},
		{"global 0 value", api.ErrRange, func(m *api.Module) { m.Globals[0].Value = 1<<63 - 1 }},
		{"global 1 letter", api.ErrType, func(m *api.Module) { m.Globals[1].Letter = 'L' }},
		{"global 2 value", api.ErrRange, func(m *api.Module) { m.Globals[2].Value = 1<<32 + 1 }},
		{"first", api.ErrRange, func(m *api.Module) { m.First = 65 }},
		{"first", api.ErrRange, func(m *api.Module) { m.First = -1 }},
		{"first", api.ErrRange, func(m *api.Module) { m.First = math.MinInt }},
		{"most", api.ErrRange, func(m *api.Module) { m.Most = 0 }},
		{"most", api.ErrRange, func(m *api.Module) { m.Most = 65 }},
		{"most", api.ErrRange, func(m *api.Module) { m.Most = -1 }},
		{"most", api.ErrRange, func(m *api.Module) { m.Most = great }},
		{"functions", api.ErrMany, func(m *api.Module) { m.Functions = append(m.Functions, make([]api.Function, 126)...) }},
		{"function 0 type", api.ErrIndex, func(m *api.Module) { m.Functions[0].Type = 3 }},
		{"function 0 type", api.ErrIndex, func(m *api.Module) { m.Functions[0].Type = -1 }},
		{"function 0 locals", api.ErrLong, func(m *api.Module) { m.Functions[0].Locals = strings.Repeat("w", 64) }},
		{"function 0 locals", api.ErrType, func(m *api.Module) { m.Functions[0].Locals = "w-" }},
		{"function 0 code", api.ErrMany, func(m *api.Module) { m.Functions[0].Code = append(m.Functions[0].Code, nops(2045)...) }},
		{"function 0 ins 0", api.ErrOp, func(m *api.Module) { m.Functions[0].Code[0] = api.Ins{Op: 0x0d} }},
		{"function 0 ins 1", api.ErrRange, func(m *api.Module) { m.Functions[0].Code[1].A = 1 << 31 }},
		{"function 0 ins 1", api.ErrRange, func(m *api.Module) { m.Functions[0].Code[1].A = -1<<31 - 1 }},
		{"function 0 ins 2", api.ErrRange, func(m *api.Module) { m.Functions[0].Code[2].L = nil }},
		{"function 0 ins 2", api.ErrRange, func(m *api.Module) { m.Functions[0].Code[2].L = make([]int, 17) }},
		{"function 0 ins 2", api.ErrRange, func(m *api.Module) { m.Functions[0].Code[2].L[2] = -1 }},
		{"function 0 ins 3", api.ErrOp, func(m *api.Module) { m.Functions[0].Code[3].Op = 0xff }},
		{"function 1 locals", api.ErrLong, func(m *api.Module) { m.Functions[1].Locals = strings.Repeat("l", 65) }},
		{"function 1 code", api.ErrMany, func(m *api.Module) { m.Functions[1].Code = nops(2049) }},
		{"function 2 type", api.ErrIndex, func(m *api.Module) { m.Functions[2].Type = great }},
		{"function 2 locals", api.ErrLong, func(m *api.Module) { m.Functions[2].Locals = strings.Repeat("l", 63) }},
		{"function 2 ins 1", api.ErrRange, func(m *api.Module) { m.Functions[2].Code[1].A = 1 << 32 }},
		{"data", api.ErrMany, func(m *api.Module) { m.Data = append(m.Data, make([]api.Data, 62)...) }},
		{"data 0 at", api.ErrRange, func(m *api.Module) { m.Data[0].At = 4097 }},
		{"data 0 at", api.ErrRange, func(m *api.Module) { m.Data[0].At = -1 }},
		{"data 0 b", api.ErrLong, func(m *api.Module) { m.Data[0].B = make([]byte, 4097) }},
		{"data 0 b", api.ErrRange, func(m *api.Module) { m.Data[0].B = nil }},
		{"data 1 at", api.ErrRange, func(m *api.Module) { m.Data[1].At = -2 }},
		{"data 1 at", api.ErrRange, func(m *api.Module) { m.Data[1].At = great }},
		{"data 1 at", api.ErrOrder, func(m *api.Module) { m.Data[1].At = 2 }},
		{"data 1 at", api.ErrOrder, func(m *api.Module) { m.Data[1].At = 0 }},
		{"data 1 b", api.ErrRange, func(m *api.Module) { m.Data[1].B = []byte{} }},
		{"data 2 at", api.ErrOrder, func(m *api.Module) { m.Data[2].At = 4 }},
		{"data 2 b", api.ErrLong, func(m *api.Module) { m.Data[2].B = make([]byte, 197) }},
		{"exports", api.ErrMany, func(m *api.Module) { m.Exports = append(m.Exports, make([]api.Export, 62)...) }},
		{"export 0 name", api.ErrLong, func(m *api.Module) { m.Exports[0].Name = strings.Repeat("A", 33) }},
		{"export 0 name", api.ErrName, func(m *api.Module) { m.Exports[0].Name = "" }},
		{"export 0 name", api.ErrName, func(m *api.Module) { m.Exports[0].Name = "A " }},
		{"export 0 name", api.ErrName, func(m *api.Module) { m.Exports[0].Name = "A\x7f" }},
		{"export 0 function", api.ErrIndex, func(m *api.Module) { m.Exports[0].Function = 3 }},
		{"export 0 function", api.ErrIndex, func(m *api.Module) { m.Exports[0].Function = -1 }},
		{"export 1 name", api.ErrLong, func(m *api.Module) { m.Exports[1].Name = strings.Repeat("a", 33) }},
		{"export 1 name", api.ErrName, func(m *api.Module) { m.Exports[1].Name = "ab\xc3\xa9" }},
		{"export 1 name", api.ErrOrder, func(m *api.Module) { m.Exports[1].Name = "a" }},
		{"export 1 name", api.ErrOrder, func(m *api.Module) { m.Exports[1].Name = "Z" }},
		{"export 2 name", api.ErrOrder, func(m *api.Module) { m.Exports[2].Name = "aa" }},
		{"export 2 function", api.ErrIndex, func(m *api.Module) { m.Exports[2].Function = great }},
	}
}

// tells: m is refused with that error, as a module and as the bytes that it would have, there at the piece's place.
func tells(t *testing.T, m api.Module, x wrong) {
	t.Helper()
	refuses(t, x.piece, m, x.e)
	ps := pieces(m)
	refusesBytes(t, x.piece, join(ps), x.e, placeOf(ps, x.piece))
}

func TestWrong(t *testing.T) {
	for _, x := range wrongs() {
		m := rich()
		x.change(&m)
		tells(t, m, x)
	}
}

// TestFirstOfTwo: of two things in one module that may not be the one ahead is told.
func TestFirstOfTwo(t *testing.T) {
	all := wrongs()
	for i, x := range all {
		for _, y := range all[i+1:] {
			if x.piece == y.piece {
				continue
			}
			m := rich()
			y.change(&m)
			x.change(&m)
			tells(t, m, x)
		}
	}
}

// TestFirstOfOne: of two things that are asked of one piece the first is told.
func TestFirstOfOne(t *testing.T) {
	for _, x := range []wrong{
		{"type 0 params", api.ErrLong, func(m *api.Module) { m.Types[0].Params = "xxxxxxxxx" }},
		{"type 0 results", api.ErrLong, func(m *api.Module) { m.Types[0].Results = "wwwwwwwwx" }},
		{"type 1 results", api.ErrType, func(m *api.Module) { m.Types[1] = api.Sig{Params: "w", Results: "x"} }},
		{"function 1 locals", api.ErrLong, func(m *api.Module) { m.Functions[1].Locals = strings.Repeat("x", 65) }},
		{"data 1 at", api.ErrRange, func(m *api.Module) { m.Data[1].At = -1 }},
		{"data 0 b", api.ErrRange, func(m *api.Module) { m.Data[0].At, m.Data[0].B = 4096, nil }},
		{"data 0 b", api.ErrLong, func(m *api.Module) { m.Data[0].At, m.Data[0].B = 4096, []byte{0} }},
		{"export 0 name", api.ErrLong, func(m *api.Module) { m.Exports[0].Name = strings.Repeat(" ", 33) }},
		{"export 1 name", api.ErrLong, func(m *api.Module) { m.Exports[1].Name = strings.Repeat("A", 33) }},
		{"export 1 name", api.ErrName, func(m *api.Module) { m.Exports[1].Name = "" }},
		{"export 1 name", api.ErrName, func(m *api.Module) { m.Exports[1].Name = "A b" }},
	} {
		m := rich()
		x.change(&m)
		tells(t, m, x)
	}
}

// TestNoFirst: a module without types has no host and no function, one without pages no data, one without functions no export.
func TestNoFirst(t *testing.T) {
	tells(t, api.Module{Hosts: []int{0}}, wrong{"host 0", api.ErrIndex, nil})
	tells(t, api.Module{Functions: make([]api.Function, 1)}, wrong{"function 0 type", api.ErrIndex, nil})
	tells(t, api.Module{Data: []api.Data{{At: 0, B: []byte{1}}}}, wrong{"data 0 b", api.ErrLong, nil})
	tells(t, api.Module{Data: []api.Data{{At: 0}}}, wrong{"data 0 b", api.ErrRange, nil})
	tells(t, api.Module{Data: []api.Data{{At: 1, B: []byte{1}}}}, wrong{"data 0 at", api.ErrRange, nil})
	tells(t, api.Module{Most: 64, Data: []api.Data{{At: 1, B: []byte{1}}}}, wrong{"data 0 at", api.ErrRange, nil})
	tells(t, api.Module{Exports: []api.Export{{Name: "f"}}}, wrong{"export 0 function", api.ErrIndex, nil})
}

// TestNames: every byte alone, and within a name.
func TestNames(t *testing.T) {
	for c := range 256 {
		for _, name := range []string{string([]byte{byte(c)}), string([]byte{'a', byte(c), 'a'})} {
			m := example()
			m.Exports[0].Name = name
			if c >= 33 && c <= 126 {
				takes(t, name, m)
			} else {
				tells(t, m, wrong{"export 0 name", api.ErrName, nil})
			}
		}
	}
}

// TestCheckAlone: what a module may have, but not its bytes.
func TestCheckAlone(t *testing.T) {
	for _, v := range []uint64{1 << 32, 1<<32 + 5, 1 << 63, 1<<63 + 5, math.MaxUint64 - 1<<31, math.MaxUint64 - 1<<31 + 1, math.MaxUint64} {
		refuses(t, "a w", api.Module{Globals: []api.Global{{Letter: 'w', Value: v}}}, api.ErrRange)
	}
	for _, x := range []api.Ins{{Op: 0x30, A: 1}, {Op: 0x30, L: []int{0}}, {Op: 0x09, A: 1, L: []int{0}}, {Op: 0x12, L: []int{0}}, {Op: 0x12, A: -1}} {
		m := example()
		m.Functions[0].Code[1] = x
		refuses(t, "an instruction", m, api.ErrRange)
	}
}

func TestAllCode(t *testing.T) {
	full := slices.Repeat([]api.Function{{Code: nops(2048)}}, 8)
	m := api.Module{Types: []api.Sig{{}}, Functions: append(slices.Clone(full), api.Function{}, api.Function{Code: nops(1)})}
	tells(t, m, wrong{"function 9 code", api.ErrMany, nil})
	m.Functions[9].Code[0].Op = 0x0d
	tells(t, m, wrong{"function 9 code", api.ErrMany, nil})
	m.Functions[9].Type = 1
	tells(t, m, wrong{"function 9 type", api.ErrIndex, nil})
	m.Functions = append(slices.Clone(full[:7]), api.Function{Code: nops(2047)}, api.Function{Code: nops(2)})
	tells(t, m, wrong{"function 8 code", api.ErrMany, nil})
	m.Functions[8].Code = nops(1)
	takes(t, "all code", m)
	m.Functions = slices.Repeat([]api.Function{{Code: nops(129)}}, 128)
	tells(t, m, wrong{"function 127 code", api.ErrMany, nil})
}

// sized is a module of just n bytes.
func sized(n int) api.Module {
	m := rich()
	m.First, m.Most = 32, 32
	m.Data = []api.Data{{At: 5, B: make([]byte, 1<<14)}}
	m.Data[0].B = make([]byte, 1<<14+n-len(raw(m)))
	return m
}

func TestLength(t *testing.T) {
	for _, n := range []int{api.MaxModule - 1, api.MaxModule} {
		m := sized(n)
		if len(raw(m)) != n {
			t.Fatalf("the module of this test itself: %d bytes", len(raw(m)))
		}
		takes(t, "nearly too long", m)
	}
	for _, n := range []int{api.MaxModule + 1, api.MaxModule + 2, 100000} {
		m := sized(n)
		refuses(t, "too long", m, api.ErrLong)
		refusesBytes(t, "too long", raw(m), api.ErrLong, 0)
		m.Exports[2].Function = 3
		refuses(t, "too long, and a wrong export", m, api.ErrIndex)
		refusesBytes(t, "too long, and a wrong export", raw(m), api.ErrLong, 0)
		m.Types[0].Params = "x"
		refuses(t, "too long, and a wrong type", m, api.ErrType)
	}
	refusesBytes(t, "too long, and another beginning", make([]byte, api.MaxModule+1), api.ErrLong, 0)
	refusesBytes(t, "another beginning", make([]byte, api.MaxModule), api.ErrMagic, 0)
	refusesBytes(t, "something behind", append(raw(sized(api.MaxModule-1)), 0), api.ErrRest, api.MaxModule-1)
	refusesBytes(t, "something behind", append(raw(sized(api.MaxModule)), 0), api.ErrLong, 0)
	code := slices.Repeat([]api.Ins{{Op: 0x12, A: 1<<31 - 1}}, 2048)
	m := api.Module{Types: []api.Sig{{}}, Functions: slices.Repeat([]api.Function{{Code: code}}, 8)}
	refuses(t, "long code", m, api.ErrLong)
	refusesBytes(t, "long code", raw(m), api.ErrLong, 0)
}

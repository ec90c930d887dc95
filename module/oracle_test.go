package module_test

import (
	"bytes"
	"slices"
	"strconv"
	"strings"

	"flagon/api"
)

const head = "FLGN\x01"

// What a piece of the bytes is.
const (
	count = iota
	number
	signed
	octet
	text
	instruction
)

// piece is one thing that has a place of its own in the bytes.
type piece struct {
	name string
	kind int
	b    []byte
}

// uvar and svar are the numbers' bytes, written by division, and not by package wire.
func uvar(v uint64) []byte {
	var out []byte
	for v >= 128 {
		out = append(out, byte(v%128+128))
		v /= 128
	}
	return append(out, byte(v))
}

func svar(v int64) []byte {
	if v < 0 {
		return uvar(2*uint64(-(v+1)) + 1)
	}
	return uvar(2 * uint64(v))
}

func textBytes(s string) []byte {
	return append(uvar(uint64(len(s))), s...)
}

// insBytes is written out of chapters 3 and 4, so that nothing of the program is held against itself.
func insBytes(x api.Ins) []byte {
	b := []byte{x.Op}
	switch {
	case x.Op == 0x18 || x.Op == 0x19:
		return append(b, svar(x.A)...)
	case x.Op == 0x09:
		b = append(b, uvar(uint64(len(x.L)))...)
		for _, l := range x.L {
			b = append(b, uvar(uint64(l))...)
		}
	case x.Op >= 0x02 && x.Op <= 0x04, x.Op == 0x07, x.Op == 0x08, x.Op == 0x0b, x.Op == 0x0c, x.Op >= 0x12 && x.Op <= 0x16, x.Op >= 0x20 && x.Op <= 0x29:
		return append(b, uvar(uint64(x.A))...)
	}
	return b
}

func valueBytes(g api.Global) []byte {
	if g.Letter == 'w' && g.Value >= 1<<31 && g.Value < 1<<32 {
		return svar(int64(g.Value) - 1<<32)
	}
	return svar(int64(g.Value))
}

// pieces is m as the table 'The bytes' has it, whether it may be or not: so also bytes that must be refused are made of it.
func pieces(m api.Module) []piece {
	var out []piece
	put := func(kind int, b []byte, name ...any) {
		var words []string
		for _, x := range name {
			switch x := x.(type) {
			case int:
				words = append(words, strconv.Itoa(x))
			case string:
				words = append(words, x)
			}
		}
		out = append(out, piece{strings.Join(words, " "), kind, b})
	}
	num := func(v int, name ...any) { put(number, uvar(uint64(v)), name...) }
	list := func(n int, name ...any) { put(count, uvar(uint64(n)), name...) }
	list(len(m.Types), "types")
	for i, x := range m.Types {
		put(text, textBytes(x.Params), "type", i, "params")
		put(text, textBytes(x.Results), "type", i, "results")
	}
	list(len(m.Hosts), "hosts")
	for i, x := range m.Hosts {
		num(x, "host", i)
	}
	list(len(m.Globals), "globals")
	for i, x := range m.Globals {
		put(octet, []byte{x.Letter}, "global", i, "letter")
		mutable := byte(0)
		if x.Mutable {
			mutable = 1
		}
		put(octet, []byte{mutable}, "global", i, "mutable")
		put(signed, valueBytes(x), "global", i, "value")
	}
	num(m.First, "first")
	num(m.Most, "most")
	list(len(m.Functions), "functions")
	for i, x := range m.Functions {
		num(x.Type, "function", i, "type")
		put(text, textBytes(x.Locals), "function", i, "locals")
		list(len(x.Code), "function", i, "code")
		for j, y := range x.Code {
			put(instruction, insBytes(y), "function", i, "ins", j)
		}
	}
	list(len(m.Data), "data")
	for i, x := range m.Data {
		num(x.At, "data", i, "at")
		put(text, textBytes(string(x.B)), "data", i, "b")
	}
	list(len(m.Exports), "exports")
	for i, x := range m.Exports {
		put(text, textBytes(x.Name), "export", i, "name")
		num(x.Function, "export", i, "function")
	}
	return out
}

// join is the bytes of the pieces, the five bytes ahead.
func join(ps []piece) []byte {
	b := []byte(head)
	for _, p := range ps {
		b = append(b, p.b...)
	}
	return b
}

func raw(m api.Module) []byte {
	return join(pieces(m))
}

// placeOf is where the piece of that name begins; -1: there is none.
func placeOf(ps []piece, name string) int {
	at := len(head)
	for _, p := range ps {
		if p.name == name {
			return at
		}
		at += len(p.b)
	}
	return -1
}

// same: a list that is nil and one without elements are the same (R4).
func same(x, y api.Module) bool {
	return slices.Equal(x.Types, y.Types) && slices.Equal(x.Hosts, y.Hosts) && slices.Equal(x.Globals, y.Globals) &&
		x.First == y.First && x.Most == y.Most &&
		slices.EqualFunc(x.Functions, y.Functions, func(f, g api.Function) bool {
			return f.Type == g.Type && f.Locals == g.Locals && slices.EqualFunc(f.Code, g.Code, func(i, j api.Ins) bool {
				return i.Op == j.Op && i.A == j.A && slices.Equal(i.L, j.L)
			})
		}) &&
		slices.EqualFunc(x.Data, y.Data, func(d, e api.Data) bool { return d.At == e.At && bytes.Equal(d.B, e.B) }) &&
		slices.Equal(x.Exports, y.Exports)
}

// rich is a module that has some of all; new memory each time.
func rich() api.Module {
	return api.Module{
		Types:   []api.Sig{{Params: "w", Results: "w"}, {}, {Params: "ll", Results: "l"}},
		Hosts:   []int{0, 2},
		Globals: []api.Global{{Letter: 'w', Mutable: true, Value: 1<<32 - 1}, {Letter: 'l', Value: 1 << 63}, {Letter: 'w', Value: 5}},
		First:   1,
		Most:    2,
		Functions: []api.Function{
			{Type: 0, Locals: "wl", Code: []api.Ins{{Op: 0x12}, {Op: 0x18, A: -300}, {Op: 0x09, L: []int{0, 1, 300}}, {Op: 0x06}}},
			{Type: 1},
			{Type: 2, Locals: "l", Code: []api.Ins{{Op: 0x19, A: -1 << 63}, {Op: 0x20, A: 1<<32 - 1}, {Op: 0x06}}},
		},
		Data:    []api.Data{{At: 0, B: []byte{1, 2}}, {At: 3, B: []byte{0}}, {At: 3900, B: bytes.Repeat([]byte{7}, 196)}},
		Exports: []api.Export{{Name: "a", Function: 0}, {Name: "ab", Function: 2}, {Name: "b", Function: 1}},
	}
}

// example is the last one of the document's examples.
func example() api.Module {
	return api.Module{
		Types:     []api.Sig{{Results: "w"}},
		Functions: []api.Function{{Code: []api.Ins{{Op: 0x18, A: 5}, {Op: 0x06}}}},
		Exports:   []api.Export{{Name: "f"}},
	}
}

// manySigs is n signatures, each another one: the numbers from 1 on in base 2, w for 0 and l for 1, cut in the middle.
func manySigs(n int) []api.Sig {
	var out []api.Sig
	for v := 1; len(out) < n; v++ {
		s := strings.NewReplacer("0", "w", "1", "l").Replace(strconv.FormatInt(int64(v), 2))
		out = append(out, api.Sig{Params: s[:(len(s)+1)/2], Results: s[(len(s)+1)/2:]})
	}
	return out
}

func manyData(n int) []api.Data {
	out := make([]api.Data, n)
	for i := range out {
		out[i] = api.Data{At: 2 * i, B: []byte{byte(i)}}
	}
	return out
}

func manyExports(n int) []api.Export {
	out := make([]api.Export, n)
	for i := range out {
		out[i].Name = string([]byte{'a' + byte(i/26), 'a' + byte(i%26)})
	}
	return out
}

func manyGlobals(n int) []api.Global {
	return slices.Repeat([]api.Global{{Letter: 'l'}}, n)
}

// nops is a function's code of n instructions, a byte each.
func nops(n int) []api.Ins {
	return slices.Repeat([]api.Ins{{Op: 0x01}}, n)
}

package text_test

import (
	"encoding/hex"
	"fmt"
	"math/rand"
	"reflect"
	"slices"
	"strings"
	"testing"

	"flagon/api"
	"flagon/text"
)

// What an instruction has behind its word.
const (
	nothing = iota
	number
	labels
)

// instruction is one of chapter 3, written out of its table, so that nothing of the program is held against itself.
type instruction struct {
	op    byte
	word  string
	takes int
}

func instructions() []instruction {
	var out []instruction
	put := func(first byte, takes int, ahead, words string) {
		for i, word := range strings.Fields(words) {
			out = append(out, instruction{first + byte(i), ahead + word, takes})
		}
	}
	const numbers = "eqz eq ne lts ltu les leu clz ctz pop add sub mul divs divu rems remu and or xor shl shrs shru rotl rotr"
	put(0x00, nothing, "", "trap nop")
	put(0x02, number, "", "block loop if")
	put(0x05, nothing, "", "else end")
	put(0x07, number, "", "br brif")
	put(0x09, labels, "", "brtable")
	put(0x0a, nothing, "", "return")
	put(0x0b, number, "", "call host")
	put(0x10, nothing, "", "drop select")
	put(0x12, number, "", "get set tee gget gset")
	put(0x18, number, "", "w.const l.const")
	put(0x20, number, "", "w.load8u w.load8s w.load16u w.load16s w.load l.load w.store8 w.store16 w.store l.store")
	put(0x2a, nothing, "", "size grow")
	put(0x30, nothing, "w.", numbers)
	put(0x50, nothing, "l.", numbers)
	put(0x70, nothing, "", "w.wrap l.extends l.extendu w.ext8 w.ext16 l.ext32")
	return out
}

func instructionOf(op byte) instruction {
	all := instructions()
	return all[slices.IndexFunc(all, func(x instruction) bool { return x.op == op })]
}

func orDash(s string) string {
	if s == "" {
		return "-"
	}
	return s
}

func insLine(x api.Ins) string {
	row := instructionOf(x.Op)
	s := "  " + row.word
	switch row.takes {
	case number:
		s += fmt.Sprintf(" %d", x.A)
	case labels:
		for _, l := range x.L {
			s += fmt.Sprintf(" %d", l)
		}
	}
	return s
}

// lines is the module as the table 'The text' has it, whether it may be or not.
func lines(m api.Module) []string {
	out := []string{"flagon"}
	put := func(form string, a ...any) { out = append(out, fmt.Sprintf(form, a...)) }
	for _, x := range m.Types {
		put("type %s -> %s", orDash(x.Params), orDash(x.Results))
	}
	for _, x := range m.Hosts {
		put("extern %d", x)
	}
	for _, x := range m.Globals {
		v := int64(x.Value)
		if x.Letter == 'w' && x.Value >= 1<<31 {
			v -= 1 << 32
		}
		put("global %c %s %d", x.Letter, map[bool]string{true: "var", false: "const"}[x.Mutable], v)
	}
	put("memory %d %d", m.First, m.Most)
	for _, f := range m.Functions {
		put("func %d %s", f.Type, orDash(f.Locals))
		for _, x := range f.Code {
			put("%s", insLine(x))
		}
	}
	for _, x := range m.Data {
		put("data %d %s", x.At, hex.EncodeToString(x.B))
	}
	for _, x := range m.Exports {
		put("export %s %d", x.Name, x.Function)
	}
	return out
}

func joined(lines []string) string {
	return strings.Join(lines, "\n") + "\n"
}

// plain makes lists without elements nil (R4), so that modules are compared by what they say.
func plain(m api.Module) api.Module {
	out := api.Module{First: m.First, Most: m.Most}
	out.Types = append(out.Types, m.Types...)
	out.Hosts = append(out.Hosts, m.Hosts...)
	out.Globals = append(out.Globals, m.Globals...)
	out.Exports = append(out.Exports, m.Exports...)
	for _, f := range m.Functions {
		g := api.Function{Type: f.Type, Locals: f.Locals}
		for _, x := range f.Code {
			g.Code = append(g.Code, api.Ins{Op: x.Op, A: x.A, L: append([]int(nil), x.L...)})
		}
		out.Functions = append(out.Functions, g)
	}
	for _, d := range m.Data {
		out.Data = append(out.Data, api.Data{At: d.At, B: append([]byte(nil), d.B...)})
	}
	return out
}

func same(a, b api.Module) bool {
	return reflect.DeepEqual(plain(a), plain(b))
}

// refused asks for that error and that line, and for nothing else beside them.
func refused(t *testing.T, what, s string, want api.Errno, line int) {
	t.Helper()
	m, e, at := text.Parse(s)
	if e != want || at != line {
		t.Errorf("%s: %.90q: %d at %d, not %d at %d", what, s, e, at, want, line)
	}
	if e != api.OK && !reflect.DeepEqual(m, api.Module{}) {
		t.Errorf("R2: %.90q: a module beside the error %d: %v", s, e, m)
	}
}

// taken asks for that module.
func taken(t *testing.T, what, s string, want api.Module) {
	t.Helper()
	m, e, at := text.Parse(s)
	if e != api.OK || at != 0 || !same(m, want) {
		t.Errorf("%s: %.90q: %v, %d at %d, not %v", what, s, m, e, at, want)
	}
}

// rich has something of every kind, at edges where it may.
func rich() api.Module {
	return api.Module{
		Types:   []api.Sig{{Params: "w", Results: "w"}, {}, {Params: "wlwlwlwl", Results: "lwlwlwlw"}, {Results: "l"}},
		Hosts:   []int{0, 3, 0},
		Globals: []api.Global{{Letter: 'l', Value: 1<<64 - 1}, {Letter: 'w', Mutable: true, Value: 1<<32 - 1}, {Letter: 'w', Value: 1 << 31}, {Letter: 'l', Mutable: true, Value: 1 << 63}, {Letter: 'w', Value: 1<<31 - 1}, {Letter: 'l', Value: 1<<63 - 1}, {Letter: 'w', Mutable: true}},
		First:   1, Most: 64,
		Functions: []api.Function{
			{Type: 0, Locals: "lw", Code: []api.Ins{{Op: 0x12}, {Op: 0x09, L: []int{0, 7, 1<<31 - 1}}, {Op: 0x06}}},
			{Type: 1},
			{Type: 2, Code: []api.Ins{{Op: 0x18, A: -1 << 31}, {Op: 0x19, A: -1 << 63}, {Op: 0x24, A: 1<<32 - 1}, {Op: 0x0c, A: 1<<31 - 1}, {Op: 0x09, L: make([]int, 16)}}},
		},
		Data:    []api.Data{{At: 16, B: []byte{7}}, {At: 18, B: []byte{0, 0xff, 0x9a, 0xa9}}},
		Exports: []api.Export{{Name: "-", Function: 2}, {Name: ";x"}, {Name: "f;", Function: 1}, {Name: "func"}},
	}
}

// someModule is one that may be told.
func someModule(r *rand.Rand) api.Module {
	var m api.Module
	for i := range r.Intn(5) {
		m.Types = append(m.Types, api.Sig{Params: someLetters(r, 8), Results: strings.Repeat("w", i)})
	}
	for range r.Intn(4) {
		m.Globals = append(m.Globals, someGlobal(r))
	}
	m.First = r.Intn(3)
	m.Most = m.First + r.Intn(65-m.First)
	if len(m.Types) > 0 {
		for range r.Intn(4) {
			m.Hosts = append(m.Hosts, r.Intn(len(m.Types)))
		}
		for range r.Intn(4) {
			m.Functions = append(m.Functions, someFunction(r, len(m.Types)))
		}
	}
	for at := r.Intn(100); m.First > 0 && at < 4000 && r.Intn(4) > 0; at += 40 + r.Intn(900) {
		b := make([]byte, 1+r.Intn(20))
		r.Read(b)
		m.Data = append(m.Data, api.Data{At: at, B: b})
	}
	for i := range len(m.Functions) {
		m.Exports = append(m.Exports, api.Export{Name: string(rune('!'+i)) + someLetters(r, 5), Function: r.Intn(len(m.Functions))})
	}
	return m
}

func someLetters(r *rand.Rand, most int) string {
	s := ""
	for range r.Intn(most + 1) {
		s += string("wl"[r.Intn(2)])
	}
	return s
}

func someGlobal(r *rand.Rand) api.Global {
	v := r.Uint64() >> r.Intn(64)
	if r.Intn(2) == 0 {
		return api.Global{Letter: 'w', Mutable: r.Intn(2) == 0, Value: v & (1<<32 - 1)}
	}
	return api.Global{Letter: 'l', Mutable: r.Intn(2) == 0, Value: v}
}

func someFunction(r *rand.Rand, types int) api.Function {
	f := api.Function{Type: r.Intn(types), Locals: someLetters(r, 20)}
	all := instructions()
	for range r.Intn(12) {
		row := all[r.Intn(len(all))]
		x := api.Ins{Op: row.op}
		switch row.takes {
		case number:
			x.A = int64(r.Uint32() >> (1 + r.Intn(31)))
		case labels:
			for range 1 + r.Intn(16) {
				x.L = append(x.L, int(r.Uint32()>>(1+r.Intn(31))))
			}
		}
		f.Code = append(f.Code, x)
	}
	return f
}

package play_test

import (
	"slices"
	"strconv"
	"strings"

	"flagon/api"
)

// wordsFrom: of the first opcode of each row of chapter 3's table its words.
var wordsFrom = map[byte]string{
	0x00: "trap nop block loop if else end br brif brtable return call host",
	0x10: "drop select get set tee gget gset",
	0x18: "w.const l.const",
	0x20: "w.load8u w.load8s w.load16u w.load16s w.load l.load w.store8 w.store16 w.store l.store size grow",
	0x30: "w.eqz w.eq w.ne w.lts w.ltu w.les w.leu w.clz w.ctz w.pop w.add w.sub w.mul w.divs w.divu w.rems w.remu w.and w.or w.xor w.shl w.shrs w.shru w.rotl w.rotr",
	0x50: "l.eqz l.eq l.ne l.lts l.ltu l.les l.leu l.clz l.ctz l.pop l.add l.sub l.mul l.divs l.divu l.rems l.remu l.and l.or l.xor l.shl l.shrs l.shru l.rotl l.rotr",
	0x70: "w.wrap l.extends l.extendu w.ext8 w.ext16 l.ext32",
}

// plainWords: of each effect of plain instructions (Pops>Pushes) their words.
var plainWords = map[string]string{
	">":    "nop",
	">w":   "w.const size",
	">l":   "l.const",
	"w>w":  "w.load8u w.load8s w.load16u w.load16s w.load grow w.eqz w.clz w.ctz w.pop w.ext8 w.ext16",
	"w>l":  "l.load l.extends l.extendu",
	"ww>":  "w.store8 w.store16 w.store",
	"wl>":  "l.store",
	"ww>w": "w.eq w.ne w.lts w.ltu w.les w.leu w.add w.sub w.mul w.divs w.divu w.rems w.remu w.and w.or w.xor w.shl w.shrs w.shru w.rotl w.rotr",
	"l>w":  "l.eqz w.wrap",
	"l>l":  "l.clz l.ctz l.pop l.ext32",
	"ll>w": "l.eq l.ne l.lts l.ltu l.les l.leu",
	"ll>l": "l.add l.sub l.mul l.divs l.divu l.rems l.remu l.and l.or l.xor l.shl l.shrs l.shru l.rotl l.rotr",
}

type effect struct{ pops, pushes string }

var (
	wordOf   = map[byte]string{}
	opcodeOf = map[string]byte{}
	plain    = map[string]effect{}
)

func init() {
	for first, words := range wordsFrom {
		for at, word := range strings.Fields(words) {
			wordOf[first+byte(at)] = word
			opcodeOf[word] = first + byte(at)
		}
	}
	for told, words := range plainWords {
		pops, pushes, _ := strings.Cut(told, ">")
		for _, word := range strings.Fields(words) {
			plain[word] = effect{pops, pushes}
		}
	}
}

// kind is the number of a type that is told as its parameters, > and its results; it is put behind the module's others, if it is not there.
func kind(m *api.Module, told string) int {
	params, results, found := strings.Cut(told, ">")
	if !found {
		panic(told)
	}
	x := api.Sig{Params: params, Results: results}
	at := slices.Index(m.Types, x)
	if at < 0 {
		at = len(m.Types)
		m.Types = append(m.Types, x)
	}
	return at
}

// ins is an instruction by its word, with a number behind a colon: of an opener a type as kind has it, of a brtable several with commas between them.
func ins(m *api.Module, piece string) api.Ins {
	word, number, _ := strings.Cut(piece, ":")
	op, found := opcodeOf[word]
	if !found {
		panic(piece)
	}
	x := api.Ins{Op: op}
	switch {
	case strings.Contains(number, ">"):
		x.A = int64(kind(m, number))
	case word == "brtable":
		for digits := range strings.SplitSeq(number, ",") {
			n, err := strconv.Atoi(digits)
			if err != nil {
				panic(piece)
			}
			x.L = append(x.L, n)
		}
	case number != "":
		n, err := strconv.ParseInt(number, 10, 64)
		if err != nil {
			panic(piece)
		}
		x.A = n
	}
	return x
}

// written is a code by its words; *9 behind one: nine of them.
func written(m *api.Module, text string) []api.Ins {
	var code []api.Ins
	for _, piece := range strings.Fields(text) {
		piece, times, many := strings.Cut(piece, "*")
		count := 1
		if many {
			count, _ = strconv.Atoi(times)
		}
		code = append(code, slices.Repeat([]api.Ins{ins(m, piece)}, count)...)
	}
	return code
}

// put puts a function behind the others: its type as kind has it, the letters of its locals, its code by words.
func put(m *api.Module, sig, locals, code string) {
	m.Functions = append(m.Functions, api.Function{Type: kind(m, sig), Locals: locals, Code: written(m, code)})
}

// of is a module of one function, without hosts, globals and memory.
func of(sig, locals, code string) api.Module {
	var m api.Module
	put(&m, sig, locals, code)
	return m
}

// paged is such a module with a memory.
func paged(first, most int, sig, locals, code string) api.Module {
	m := of(sig, locals, code)
	m.First, m.Most = first, most
	return m
}

// begun is where function 0 begins with these arguments.
func begun(m api.Module, args ...uint64) api.State {
	f := m.Functions[0]
	locals := append(slices.Clone(args), make([]uint64, len(m.Types[f.Type].Params)+len(f.Locals)-len(args))...)
	s := api.State{Frames: []api.Frame{{Locals: locals}}, Pages: blank(m.First), End: suspended}
	for _, g := range m.Globals {
		s.Globals = append(s.Globals, g.Value)
	}
	return s
}

// blank: so many pages of noughts.
func blank(pages int) [][]byte {
	list := make([][]byte, pages)
	for at := range list {
		list[at] = make([]byte, size)
	}
	return list
}

// numbers: of a text with blanks between.
func numbers(text string) []uint64 {
	var list []uint64
	for _, digits := range strings.Fields(text) {
		v, err := strconv.ParseUint(digits, 10, 64)
		if err != nil {
			panic(text)
		}
		list = append(list, v)
	}
	return list
}

// code is a code as words; of a long one the beginning.
func code(m api.Module, function int) string {
	var out []string
	list := m.Functions[function].Code
	for _, x := range list[:min(len(list), 90)] {
		s := wordOf[x.Op]
		switch {
		case s == "block" || s == "loop" || s == "if":
			s += ":" + m.Types[x.A].Params + ">" + m.Types[x.A].Results
		case len(x.L) > 0:
			for i, n := range x.L {
				s += []string{":", ","}[min(i, 1)] + strconv.Itoa(n)
			}
		case x.A != 0:
			s += ":" + strconv.FormatInt(x.A, 10)
		}
		out = append(out, s)
	}
	return strings.Join(out, " ")
}

// show is a state in the words of chapter 30, a line behind the other; globals and pages, if there are any.
func show(s api.State) string {
	var out []string
	line := func(word string, values ...uint64) {
		out = append(out, word)
		for _, v := range values {
			out = append(out, strconv.FormatUint(v, 10))
		}
	}
	line([]string{"none", "suspended", "halted", "trapped"}[s.End])
	out = append(out, "used", strconv.FormatInt(s.Used, 10))
	if s.End == halted {
		line("results", s.Results...)
	}
	if s.End == trapped {
		line("trap", uint64(s.Trap))
	}
	for _, f := range s.Frames {
		line("frame", uint64(f.Function))
		line("at", uint64(f.Pc))
		line("locals", f.Locals...)
		line("stack", f.Stack...)
	}
	if len(s.Globals) > 0 {
		line("globals", s.Globals...)
	}
	if len(s.Pages) > 0 {
		full := uint64(0)
		for _, p := range s.Pages {
			for _, b := range p {
				full += min(uint64(b), 1)
			}
		}
		line("pages", uint64(len(s.Pages)), full)
	}
	if s.Replies > 0 {
		line("replies", uint64(s.Replies))
	}
	return strings.Join(out, " ")
}

package lower_test

import (
	"slices"
	"strconv"
	"strings"
	"testing"

	"flagon/api"
	"flagon/lower"
	"flagon/validate"
)

// wordsFrom: of the first opcode of each row of chapter 3's table its words.
var wordsFrom = map[byte]string{
	0x00: "trap nop block loop if else end br brif brtable return call host",
	0x10: "drop select get set tee gget gset",
	0x18: "w.const l.const",
	0x20: "w.load8u w.load8s w.load16u w.load16s w.load l.load w.store8 w.store16 w.store l.store size grow",
	0x30: "w.eqz w.eq w.ne w.lts w.ltu w.les w.leu w.clz w.ctz w.pop w.add w.sub w.mul w.divs w.divu w.rems w.remu w.and w.or w.xor w.shl w.shrs w.shru w.rotl w.rotr",
	0x50: "l.eqz l.eq l.ne l.lts l.ltu l.les l.leu l.clz l.ctz l.pop l.add l.sub l.mul l.divs l.divu l.rems l.remu l.and l.or l.xor l.shl l.shrs l.shru l.rotl l.rotr",
	0x70: "w.wrap l.extends l.extendu w.ext8 w.ext16 l.ext32",
}

// plainWords: of each effect of plain instructions (Pops>Pushes) their words.
var plainWords = map[string]string{
	">":    "nop",
	">w":   "w.const size",
	">l":   "l.const",
	"w>w":  "w.load8u w.load8s w.load16u w.load16s w.load grow w.eqz w.clz w.ctz w.pop w.ext8 w.ext16",
	"w>l":  "l.load l.extends l.extendu",
	"ww>":  "w.store8 w.store16 w.store",
	"wl>":  "l.store",
	"ww>w": "w.eq w.ne w.lts w.ltu w.les w.leu w.add w.sub w.mul w.divs w.divu w.rems w.remu w.and w.or w.xor w.shl w.shrs w.shru w.rotl w.rotr",
	"l>w":  "l.eqz w.wrap",
	"l>l":  "l.clz l.ctz l.pop l.ext32",
	"ll>w": "l.eq l.ne l.lts l.ltu l.les l.leu",
	"ll>l": "l.add l.sub l.mul l.divs l.divu l.rems l.remu l.and l.or l.xor l.shl l.shrs l.shru l.rotl l.rotr",
}

type effect struct{ pops, pushes string }

var (
	wordOf   = map[byte]string{}
	opcodeOf = map[string]byte{}
	plain    = map[string]effect{}
)

func init() {
	for first, words := range wordsFrom {
		for at, word := range strings.Fields(words) {
			wordOf[first+byte(at)] = word
			opcodeOf[word] = first + byte(at)
		}
	}
	for told, words := range plainWords {
		pops, pushes, _ := strings.Cut(told, ">")
		for _, word := range strings.Fields(words) {
			plain[word] = effect{pops, pushes}
		}
	}
}

// kind is the number of a type that is told as its parameters, > and its results; it is put behind the module's others, if it is not there.
func kind(m *api.Module, told string) int {
	params, results, found := strings.Cut(told, ">")
	if !found {
		panic(told)
	}
	x := api.Sig{Params: params, Results: results}
	at := slices.Index(m.Types, x)
	if at < 0 {
		at = len(m.Types)
		m.Types = append(m.Types, x)
	}
	return at
}

// ins is an instruction by its word, with a number behind a colon: of an opener a type as kind has it, of a brtable several with commas between them.
func ins(m *api.Module, piece string) api.Ins {
	word, number, _ := strings.Cut(piece, ":")
	op, found := opcodeOf[word]
	if !found {
		panic(piece)
	}
	x := api.Ins{Op: op}
	switch {
	case strings.Contains(number, ">"):
		x.A = int64(kind(m, number))
	case word == "brtable":
		for digits := range strings.SplitSeq(number, ",") {
			n, err := strconv.Atoi(digits)
			if err != nil {
				panic(piece)
			}
			x.L = append(x.L, n)
		}
	case number != "":
		n, err := strconv.ParseInt(number, 10, 64)
		if err != nil {
			panic(piece)
		}
		x.A = n
	}
	return x
}

// written is a code by its words; *9 behind one: nine of them.
func written(m *api.Module, text string) []api.Ins {
	var code []api.Ins
	for _, piece := range strings.Fields(text) {
		piece, times, many := strings.Cut(piece, "*")
		count := 1
		if many {
			count, _ = strconv.Atoi(times)
		}
		code = append(code, slices.Repeat([]api.Ins{ins(m, piece)}, count)...)
	}
	return code
}

// consts: words that push these letters.
func consts(letters string) string {
	return strings.NewReplacer("w", "w.const ", "l", "l.const ").Replace(letters)
}

// put puts a function behind the others: its type as kind has it, the letters of its locals, its code by words.
func put(m *api.Module, sig, locals, code string) {
	m.Functions = append(m.Functions, api.Function{Type: kind(m, sig), Locals: locals, Code: written(m, code)})
}

// of is a module of one function, without hosts, globals and memory.
func of(sig, locals, code string) api.Module {
	var m api.Module
	put(&m, sig, locals, code)
	return m
}

// told is a code as words; of a long one the beginning.
func told(m api.Module, f int) string {
	var out []string
	list := m.Functions[f].Code
	for _, x := range list[:min(len(list), 90)] {
		s := wordOf[x.Op]
		switch {
		case s == "block" || s == "loop" || s == "if":
			s += ":" + m.Types[x.A].Params + ">" + m.Types[x.A].Results
		case len(x.L) > 0:
			for i, n := range x.L {
				s += []string{":", ","}[min(i, 1)] + strconv.Itoa(n)
			}
		case x.A != 0:
			s += ":" + strconv.FormatInt(x.A, 10)
		}
		out = append(out, s)
	}
	return strings.Join(out, " ")
}

// show is a list of ways with blanks between: a pc, where nothing is dropped; else it, :Keep and @Floor; out:Keep out of the function.
func show(ways []lower.Way) string {
	var out []string
	for _, w := range ways {
		s := strconv.Itoa(w.To)
		switch {
		case w.To == -1 && w.Floor == 0:
			s = "out:" + strconv.Itoa(w.Keep)
		case w.Keep != 0 || w.Floor != -1:
			s += ":" + strconv.Itoa(w.Keep) + "@" + strconv.Itoa(w.Floor)
		}
		out = append(out, s)
	}
	return strings.Join(out, " ")
}

// showAll: the ways of all lines, semicolons between.
func showAll(lines []lower.Line) string {
	var out []string
	for _, l := range lines {
		out = append(out, show(l.Ways))
	}
	return strings.Join(out, "; ")
}

// asked is Function of a module that may run.
func asked(t *testing.T, m api.Module, f int) []lower.Line {
	t.Helper()
	if _, e, number, pc := validate.Module(m); e != api.OK {
		t.Fatalf("%d in function %d at %d: %s", e, number, pc, told(m, max(number, 0)))
	}
	lines, e := lower.Function(m, f)
	if e != api.OK || len(lines) != len(m.Functions[f].Code) {
		t.Fatalf("P18.1: Function %d: %d, %d lines: %s", f, e, len(lines), told(m, f))
	}
	return lines
}

func sameLine(a, b lower.Line) bool {
	return a.Op == b.Op && a.A == b.A && slices.Equal(a.Ways, b.Ways) && a.Start == b.Start && a.Left == b.Left
}

func sameLines(a, b []lower.Line) bool {
	return slices.EqualFunc(a, b, sameLine)
}

func sameAll(a, b [][]lower.Line) bool {
	return slices.EqualFunc(a, b, sameLines)
}

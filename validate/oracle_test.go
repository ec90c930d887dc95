package validate_test

import (
	"slices"
	"strconv"
	"strings"
	"testing"

	"flagon/api"
	"flagon/validate"
)

// What the document says of modules that may be told, without a call of the program: what stands in an opener is gone through by a call of its own.

// wordsFrom: of the first opcode of each row of chapter 3's table its words.
var wordsFrom = map[byte]string{
	0x00: "trap nop block loop if else end br brif brtable return call host",
	0x10: "drop select get set tee gget gset",
	0x18: "w.const l.const",
	0x20: "w.load8u w.load8s w.load16u w.load16s w.load l.load w.store8 w.store16 w.store l.store size grow",
	0x30: "w.eqz w.eq w.ne w.lts w.ltu w.les w.leu w.clz w.ctz w.pop w.add w.sub w.mul w.divs w.divu w.rems w.remu w.and w.or w.xor w.shl w.shrs w.shru w.rotl w.rotr",
	0x50: "l.eqz l.eq l.ne l.lts l.ltu l.les l.leu l.clz l.ctz l.pop l.add l.sub l.mul l.divs l.divu l.rems l.remu l.and l.or l.xor l.shl l.shrs l.shru l.rotl l.rotr",
	0x70: "w.wrap l.extends l.extendu w.ext8 w.ext16 l.ext32",
}

// plainWords: of each effect of plain instructions (Pops>Pushes) their words.
var plainWords = map[string]string{
	">":    "nop",
	">w":   "w.const size",
	">l":   "l.const",
	"w>w":  "w.load8u w.load8s w.load16u w.load16s w.load grow w.eqz w.clz w.ctz w.pop w.ext8 w.ext16",
	"w>l":  "l.load l.extends l.extendu",
	"ww>":  "w.store8 w.store16 w.store",
	"wl>":  "l.store",
	"ww>w": "w.eq w.ne w.lts w.ltu w.les w.leu w.add w.sub w.mul w.divs w.divu w.rems w.remu w.and w.or w.xor w.shl w.shrs w.shru w.rotl w.rotr",
	"l>w":  "l.eqz w.wrap",
	"l>l":  "l.clz l.ctz l.pop l.ext32",
	"ll>w": "l.eq l.ne l.lts l.ltu l.les l.leu",
	"ll>l": "l.add l.sub l.mul l.divs l.divu l.rems l.remu l.and l.or l.xor l.shl l.shrs l.shru l.rotl l.rotr",
}

type effect struct{ pops, pushes string }

var (
	wordOf   = map[byte]string{}
	opcodeOf = map[string]byte{}
	plain    = map[string]effect{}
)

func init() {
	for first, words := range wordsFrom {
		for at, word := range strings.Fields(words) {
			wordOf[first+byte(at)] = word
			opcodeOf[word] = first + byte(at)
		}
	}
	for told, words := range plainWords {
		pops, pushes, _ := strings.Cut(told, ">")
		for _, word := range strings.Fields(words) {
			plain[word] = effect{pops, pushes}
		}
	}
}

// written is a code by its words: a number behind a colon, those of a brtable with commas between them; *9 behind a word: nine of them.
func written(text string) []api.Ins {
	var code []api.Ins
	for _, piece := range strings.Fields(text) {
		piece, times, many := strings.Cut(piece, "*")
		name, numbers, _ := strings.Cut(piece, ":")
		op, found := opcodeOf[name]
		if !found {
			panic(piece)
		}
		x := api.Ins{Op: op}
		for _, digits := range strings.FieldsFunc(numbers, func(r rune) bool { return r == ',' }) {
			n, err := strconv.ParseInt(digits, 10, 64)
			if err != nil {
				panic(piece)
			}
			if name == "brtable" {
				x.L = append(x.L, int(n))
			} else {
				x.A = n
			}
		}
		count := 1
		if many {
			count, _ = strconv.Atoi(times)
		}
		for range count {
			code = append(code, x)
		}
	}
	return code
}

// told is a code as words; of a long one the beginning.
func told(code []api.Ins) string {
	var out []string
	for _, x := range code {
		s := wordOf[x.Op]
		if s == "brtable" {
			s += ":"
			for _, n := range x.L {
				s += strconv.Itoa(n) + ","
			}
		} else if x.A != 0 {
			s += ":" + strconv.FormatInt(x.A, 10)
		}
		out = append(out, s)
	}
	if len(out) > 90 {
		out = append(out[:90], "..")
	}
	return strings.Join(out, " ")
}

// answer is what Function says.
type answer struct {
	table api.Table
	e     api.Errno
	pc    int
}

func asked(m api.Module, function int) answer {
	table, e, pc := validate.Function(m, function)
	return answer{table, e, pc}
}

func sameTable(a, b api.Table) bool {
	return slices.Equal(a.Shapes, b.Shapes) && slices.Equal(a.Ends, b.Ends) && slices.Equal(a.Elses, b.Elses) && slices.Equal(a.Floors, b.Floors) && a.Highest == b.Highest
}

func sameAnswer(a, b answer) bool {
	return sameTable(a.table, b.table) && a.e == b.e && a.pc == b.pc
}

// fault is an error and its pc, thrown by the oracle.
type fault struct {
	e  api.Errno
	pc int
}

// oracle goes through one function's code by the document's rules.
type oracle struct {
	m      api.Module
	f      api.Function
	locals string
	pc     int
	table  api.Table
}

// want is what the document says of a function of a module that may be told.
func want(m api.Module, function int) (out answer) {
	f := m.Functions[function]
	defer func() {
		if thrown := recover(); thrown != nil {
			x := thrown.(fault)
			out = answer{e: x.e, pc: x.pc}
		}
	}()
	nesting(f.Code)
	o := &oracle{m: m, f: f, locals: m.Types[f.Type].Params + f.Locals}
	for range f.Code {
		o.table.Ends, o.table.Elses, o.table.Floors = append(o.table.Ends, -1), append(o.table.Elses, -1), append(o.table.Floors, -1)
	}
	results := m.Types[f.Type].Results
	if s := o.inside("", "", results, []string{results}); s != results {
		o.fail(api.ErrStack)
	}
	for _, s := range o.table.Shapes {
		o.table.Highest = max(o.table.Highest, len(s))
	}
	return answer{table: o.table}
}

// nesting throws what control.Map refuses.
func nesting(code []api.Ins) {
	open := []string{"body"}
	for pc, x := range code {
		word := wordOf[x.Op]
		switch {
		case len(open) == 0:
			panic(fault{api.ErrRest, pc})
		case word == "block" || word == "loop" || word == "if":
			if len(open)-1 == 32 {
				panic(fault{api.ErrDeep, pc})
			}
			open = append(open, word)
		case word == "else":
			if open[len(open)-1] != "if" {
				panic(fault{api.ErrElse, pc})
			}
			open[len(open)-1] = "else"
		case word == "end":
			open = open[:len(open)-1]
		}
	}
	if len(open) > 0 {
		panic(fault{api.ErrCut, len(code)})
	}
}

func (o *oracle) fail(e api.Errno) {
	panic(fault{e, o.pc})
}

// word is that of the instruction at pc, whose shape it puts down.
func (o *oracle) word(s string) string {
	if len(o.table.Shapes) == o.pc {
		o.table.Shapes = append(o.table.Shapes, s)
	}
	return wordOf[o.f.Code[o.pc].Op]
}

// inside goes from pc, with the shape s, to the else or the end of what has that base and those results, and answers the shape there. labels are the letters that the labels bring, the innermost first.
func (o *oracle) inside(base, s, results string, labels []string) string {
	for {
		word := o.word(s)
		if word == "else" || word == "end" {
			return s
		}
		above := s[len(base):]
		next, dead := "", false
		switch word {
		case "block", "loop", "if":
			next = o.opened(word, base, s, labels)
		case "trap", "br", "brtable", "return":
			o.wayEnd(word, above, labels)
			next, dead = base+results, true
		case "brif":
			if !strings.HasSuffix(above, o.label(labels, o.f.Code[o.pc].A)+"w") {
				o.fail(api.ErrStack)
			}
			next = s[:len(s)-1]
		default:
			x := o.effect(word, above)
			if !strings.HasSuffix(above, x.pops) {
				o.fail(api.ErrStack)
			}
			next = s[:len(s)-len(x.pops)] + x.pushes
		}
		if len(next) > 256 {
			o.fail(api.ErrHigh)
		}
		s = next
		o.pc++
		if word = wordOf[o.f.Code[o.pc].Op]; dead && word != "else" && word != "end" {
			o.fail(api.ErrDead)
		}
	}
}

// opened goes through an opener, to its end, and answers the shape behind that.
func (o *oracle) opened(word, base, s string, labels []string) string {
	at := o.pc
	number := o.f.Code[at].A
	if number >= int64(len(o.m.Types)) {
		o.fail(api.ErrIndex)
	}
	sig := o.m.Types[number]
	top := sig.Params
	if word == "if" {
		top += "w"
	}
	if !strings.HasSuffix(s[len(base):], top) {
		o.fail(api.ErrStack)
	}
	below := s[:len(s)-len(top)]
	o.table.Floors[at] = len(below)
	brings := sig.Results
	if word == "loop" {
		brings = sig.Params
	}
	inner := append([]string{brings}, labels...)
	o.half(below, sig, inner)
	if o.word("") == "else" {
		o.table.Elses[at] = o.pc
		half := o.pc
		o.half(below, sig, inner)
		o.table.Ends[half] = o.pc
	} else if word == "if" && sig.Params != sig.Results {
		o.fail(api.ErrElse)
	}
	o.table.Ends[at] = o.pc
	return below + sig.Results
}

// half goes through what stands behind an opener or an else.
func (o *oracle) half(below string, sig api.Sig, labels []string) {
	o.pc++
	if o.inside(below, below+sig.Params, sig.Results, labels) != below+sig.Results {
		o.fail(api.ErrStack)
	}
}

func (o *oracle) label(labels []string, number int64) string {
	if number >= int64(len(labels)) {
		o.fail(api.ErrLabel)
	}
	return labels[number]
}

func (o *oracle) wayEnd(word, above string, labels []string) {
	x := o.f.Code[o.pc]
	top := ""
	switch word {
	case "br":
		top = o.label(labels, x.A)
	case "brtable":
		var brought []string
		for _, number := range x.L {
			brought = append(brought, o.label(labels, int64(number)))
		}
		if len(slices.Compact(slices.Clone(brought))) > 1 {
			o.fail(api.ErrLabels)
		}
		top = brought[0] + "w"
	case "return":
		top = labels[len(labels)-1]
	}
	if !strings.HasSuffix(above, top) {
		o.fail(api.ErrStack)
	}
}

// effect is what the instruction takes off and puts on, all but its asking whether it is there.
func (o *oracle) effect(word, above string) effect {
	number := o.f.Code[o.pc].A
	within := func(count int) {
		if number >= int64(count) {
			o.fail(api.ErrIndex)
		}
	}
	letter := ""
	switch word {
	case "call":
		within(len(o.m.Functions))
		sig := o.m.Types[o.m.Functions[number].Type]
		return effect{sig.Params, sig.Results}
	case "host":
		within(len(o.m.Hosts))
		sig := o.m.Types[o.m.Hosts[number]]
		return effect{sig.Params, sig.Results}
	case "drop":
		if above == "" {
			o.fail(api.ErrStack)
		}
		return effect{above[len(above)-1:], ""}
	case "select":
		if strings.HasSuffix(above, "llw") {
			return effect{"llw", "l"}
		}
		return effect{"www", "w"}
	case "get", "set", "tee":
		within(len(o.locals))
		letter = string(o.locals[number])
	case "gget", "gset":
		within(len(o.m.Globals))
		if word == "gset" && !o.m.Globals[number].Mutable {
			o.fail(api.ErrMutable)
		}
		letter = string(o.m.Globals[number].Letter)
	}
	switch word {
	case "get", "gget":
		return effect{"", letter}
	case "set", "gset":
		return effect{letter, ""}
	case "tee":
		return effect{letter, letter}
	}
	x, found := plain[word]
	if !found {
		panic(word)
	}
	return x
}

// hold holds Function and Module against the oracle, of a module that may be told.
func hold(t *testing.T, m api.Module) {
	t.Helper()
	var tables []api.Table
	e, number, pc := api.OK, 0, 0
	for function, f := range m.Functions {
		expected := want(m, function)
		if got := asked(m, function); !sameAnswer(got, expected) {
			t.Fatalf("P10.1: function %d of %v, %s: %v, not %v", function, m.Types[f.Type], told(f.Code), got, expected)
		}
		if expected.e != api.OK && e == api.OK {
			e, number, pc = expected.e, function, expected.pc
		}
		tables = append(tables, expected.table)
	}
	if e != api.OK {
		tables = nil
	}
	got, gotE, gotNumber, gotPc := validate.Module(m)
	if !slices.EqualFunc(got, tables, sameTable) || gotE != e || gotNumber != number || gotPc != pc {
		t.Fatalf("P10.2: %v: %v, %d, %d, %d, not %d, %d, %d", m, got, gotE, gotNumber, gotPc, e, number, pc)
	}
}

// TestOracle holds the oracle itself against what the document's examples say.
func TestOracle(t *testing.T) {
	if len(wordOf) != 90 || len(plain)+19 != 90 {
		t.Errorf("%d words, %d plain", len(wordOf), len(plain))
	}
	a := want(one("w.const:1 if:0 w.const:2 else w.const:3 end end"), 0)
	if a.e != api.OK || !slices.Equal(a.table.Shapes, []string{"", "w", "", "w", "", "w", "w"}) || a.table.Elses[1] != 3 || a.table.Ends[1] != 5 || a.table.Ends[3] != 5 || a.table.Highest != 1 {
		t.Errorf("%v", a)
	}
	if a = want(one("w.const:1 block:2 drop end end"), 0); a.e != api.ErrStack || a.pc != 2 {
		t.Errorf("%v", a)
	}
}

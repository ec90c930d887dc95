package control_test

import (
	"maps"
	"math/rand"
	"slices"
	"strconv"
	"strings"
	"testing"

	"flagon/api"
)

// What the document says, place by place, without a call of the program. Instructions are told by their words here; what is open where is asked of the code itself, each time anew.

const words = "trap nop block loop if else end br brif brtable return call host"

var wordList = strings.Fields(words)

// opcode is that of one of the words, or of two digits of base 16.
func opcode(word string) byte {
	if at := slices.Index(wordList, word); at >= 0 {
		return byte(at)
	}
	n, err := strconv.ParseUint(word, 16, 8)
	if err != nil {
		panic(word)
	}
	return byte(n)
}

// word is an instruction's, if it is one of flow.
func word(x api.Ins) string {
	if int(x.Op) < len(wordList) {
		return wordList[x.Op]
	}
	return ""
}

// written is a code by its words: numbers behind a colon, those of a brtable with commas between them.
func written(text string) []api.Ins {
	var code []api.Ins
	for _, piece := range strings.Fields(text) {
		name, numbers, _ := strings.Cut(piece, ":")
		x := api.Ins{Op: opcode(name)}
		for _, digits := range strings.FieldsFunc(numbers, func(r rune) bool { return r == ',' }) {
			n, err := strconv.ParseInt(digits, 10, 64)
			if err != nil {
				panic(piece)
			}
			if name == "brtable" {
				x.L = append(x.L, int(n))
			} else {
				x.A = n
			}
		}
		code = append(code, x)
	}
	return code
}

// told is a code as words, the way it is written; of a long one the beginning.
func told(code []api.Ins) string {
	var out []string
	for _, x := range code {
		s := word(x)
		if s == "" {
			s = strconv.FormatUint(uint64(x.Op), 16)
		}
		switch {
		case s == "brtable":
			s += ":"
			for _, n := range x.L {
				s += strconv.Itoa(n) + ","
			}
		case x.A != 0:
			s += ":" + strconv.FormatInt(x.A, 10)
		}
		out = append(out, s)
	}
	if len(out) > 80 {
		out = append(out[:80], "..")
	}
	return strings.Join(out, " ")
}

func opens(x api.Ins) bool {
	return word(x) == "block" || word(x) == "loop" || word(x) == "if"
}

// endOf is the pc of the end of what was opened at that pc (-1: the body): the first end behind it with which there are more ends than openers. The code's length, if there is none.
func endOf(code []api.Ins, opener int) int {
	more := 0
	for pc := opener + 1; pc < len(code); pc++ {
		if opens(code[pc]) {
			more++
		}
		if word(code[pc]) == "end" {
			more--
		}
		if more < 0 {
			return pc
		}
	}
	return len(code)
}

// reading is a code with what was found of it: of each pc the end that one opened there would have, what is open there (the innermost first), and the fault.
type reading struct {
	code []api.Ins
	ends []int
	open [][]int
	e    api.Errno
	pc   int
}

func read(code []api.Ins) *reading {
	d := &reading{code: code}
	for pc := range code {
		d.ends = append(d.ends, endOf(code, pc))
		d.open = append(d.open, d.openAt(pc))
	}
	d.e, d.pc = d.fault()
	return d
}

// openAt is all that is open at pc, the innermost first.
func (d *reading) openAt(pc int) []int {
	var list []int
	for at := pc - 1; at >= 0; at-- {
		if opens(d.code[at]) && d.ends[at] >= pc {
			list = append(list, at)
		}
	}
	return append(list, -1)
}

// elseOf is the pc of the first else of that opener, -1 if it has none.
func (d *reading) elseOf(opener int) int {
	for pc := opener + 1; pc < d.ends[opener]; pc++ {
		if word(d.code[pc]) == "else" && d.open[pc][0] == opener {
			return pc
		}
	}
	return -1
}

// fault is the first one of a code, and its pc.
func (d *reading) fault() (api.Errno, int) {
	last := endOf(d.code, -1)
	for pc, x := range d.code {
		if pc > last {
			return api.ErrRest, pc
		}
		open := d.open[pc]
		if openers := len(open) - 1; opens(x) && openers+1 > 32 {
			return api.ErrDeep, pc
		}
		if word(x) != "else" {
			continue
		}
		if open[0] == -1 || word(d.code[open[0]]) != "if" || d.elseOf(open[0]) != pc {
			return api.ErrElse, pc
		}
	}
	if last == len(d.code) {
		return api.ErrCut, last
	}
	return api.OK, 0
}

// mapped is what Map answers.
type mapped struct {
	ends, elses, owners []int
	e                   api.Errno
	pc                  int
}

func (d *reading) wantMap() mapped {
	m := mapped{e: d.e, pc: d.pc}
	if d.e != api.OK {
		return m
	}
	for pc, x := range d.code {
		end, other, owner := -1, -1, d.open[pc][0]
		if opens(x) {
			end = d.ends[pc]
		}
		if word(x) == "else" {
			end = d.ends[owner]
		}
		if word(x) == "if" {
			other = d.elseOf(pc)
		}
		m.ends, m.elses, m.owners = append(m.ends, end), append(m.elses, other), append(m.owners, owner)
	}
	return m
}

// isAt: does the document take the code, and is pc an instruction's?
func (d *reading) isAt(pc int) bool {
	return d.e == api.OK && 0 <= pc && pc < len(d.code)
}

func (d *reading) wantLabels(pc int) []int {
	if !d.isAt(pc) {
		return nil
	}
	return d.open[pc]
}

// placeOf is the place of a label.
func (d *reading) placeOf(label int) int {
	switch {
	case label == -1:
		return len(d.code)
	case word(d.code[label]) == "loop":
		return label + 1
	}
	return d.ends[label] + 1
}

// wantNext goes through the document's table, row by row.
func (d *reading) wantNext(pc int) []int {
	if !d.isAt(pc) {
		return nil
	}
	places := map[int]bool{}
	to := func(n int64) {
		for number, label := range d.open[pc] {
			if int64(number) == n {
				places[d.placeOf(label)] = true
			}
		}
	}
	x := d.code[pc]
	switch word(x) {
	case "trap":
	case "if":
		places[pc+1] = true
		if other := d.elseOf(pc); other >= 0 {
			places[other+1] = true
		} else {
			places[d.ends[pc]] = true
		}
	case "else":
		places[d.ends[d.open[pc][0]]] = true
	case "br":
		to(x.A)
	case "brif":
		to(x.A)
		places[pc+1] = true
	case "brtable":
		for _, n := range x.L {
			to(int64(n))
		}
	case "return":
		places[len(d.code)] = true
	default:
		places[pc+1] = true
	}
	return slices.Sorted(maps.Keys(places))
}

// drawer draws codes that Map takes.
type drawer struct {
	r    *rand.Rand
	code []api.Ins
	most int
}

// drawn is a code of about that many instructions, with openers up to that depth.
func drawn(r *rand.Rand, most, depth int) []api.Ins {
	d := &drawer{r: r, most: most}
	for len(d.code) < most {
		d.inside(depth)
	}
	d.put(api.Ins{Op: opcode("end")})
	return d.code
}

func (d *drawer) put(x api.Ins) {
	d.code = append(d.code, x)
}

// inside draws what stands in an opener, or in one half of an if.
func (d *drawer) inside(depth int) {
	for len(d.code) < d.most && d.r.Intn(8) != 0 {
		if depth == 0 || d.r.Intn(2) == 0 {
			d.put(d.single())
			continue
		}
		name := []string{"block", "loop", "if"}[d.r.Intn(3)]
		d.put(api.Ins{Op: opcode(name), A: int64(d.r.Intn(9))})
		d.inside(depth - 1)
		if name == "if" && d.r.Intn(2) == 0 {
			d.put(api.Ins{Op: opcode("else")})
			d.inside(depth - 1)
		}
		d.put(api.Ins{Op: opcode("end")})
	}
}

// single draws an instruction that opens and ends nothing; some of them are none's.
func (d *drawer) single() api.Ins {
	x := api.Ins{Op: opcode([]string{"trap", "nop", "br", "brif", "brtable", "return", "call", "host", "13", "30", "75", "ff"}[d.r.Intn(12)])}
	switch word(x) {
	case "brtable":
		for range d.r.Intn(6) {
			x.L = append(x.L, d.r.Intn(8)-1)
		}
	default:
		x.A = int64(d.r.Intn(8) - 1)
	}
	return x
}

// copied is a code that shares nothing with the other one.
func copied(code []api.Ins) []api.Ins {
	out := slices.Clone(code)
	for i := range out {
		out[i].L = slices.Clone(out[i].L)
	}
	return out
}

func sameCode(a, b []api.Ins) bool {
	return slices.EqualFunc(a, b, func(x, y api.Ins) bool { return x.Op == y.Op && x.A == y.A && slices.Equal(x.L, y.L) })
}

// TestOracle holds the oracle itself against what the document's examples say.
func TestOracle(t *testing.T) {
	m := read(written("if else end end")).wantMap()
	if !slices.Equal(m.ends, []int{2, 2, -1, -1}) || !slices.Equal(m.elses, []int{1, -1, -1, -1}) || !slices.Equal(m.owners, []int{-1, 0, 0, -1}) {
		t.Errorf("%v", m)
	}
	if l := read(written("block loop br:1 end end end")).wantNext(2); !slices.Equal(l, []int{5}) {
		t.Errorf("%v", l)
	}
}

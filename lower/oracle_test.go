package lower_test

import (
	"fmt"
	"strings"
	"testing"

	"flagon/api"
	"flagon/lower"
	"flagon/validate"
)

// What the document says, place by place, without a call of control or blocks: each question is asked of the code itself, each time anew; shapes are those of the validator's table.

const cutting = " loop if else end br brif brtable return trap call host "

// reading is a function, with the opener around each pc.
type reading struct {
	m      api.Module
	own    api.Function
	table  api.Table
	owners []int
}

func read(m api.Module, f int, t api.Table) reading {
	r := reading{m: m, own: m.Functions[f], table: t}
	for pc := range r.own.Code {
		r.owners = append(r.owners, ownerOf(r.own.Code, pc))
	}
	return r
}

// ownerOf is the opener around that pc, -1 of the body: the last one ahead of it that has not ended there.
func ownerOf(code []api.Ins, pc int) int {
	ended := 0
	for pc--; pc >= 0; pc-- {
		switch code[pc].Op {
		case 0x06:
			ended++
		case 0x02, 0x03, 0x04:
			if ended == 0 {
				return pc
			}
			ended--
		}
	}
	return -1
}

func (r reading) word(pc int) string {
	return wordOf[r.own.Code[pc].Op]
}

// belongs is the first instruction of that word of which the opener is the owner; none: -1.
func (r reading) belongs(word string, opener int) int {
	for pc := opener + 1; pc < len(r.owners); pc++ {
		if r.owners[pc] == opener && r.word(pc) == word {
			return pc
		}
	}
	return -1
}

func (r reading) label(pc, number int) lower.Way {
	opener := r.owners[pc]
	for ; number > 0; number-- {
		opener = r.owners[opener]
	}
	if opener < 0 {
		return r.out()
	}
	x := r.m.Types[r.own.Code[opener].A]
	floor := len(r.table.Shapes[opener]) - len(x.Params)
	switch r.word(opener) {
	case "if":
		floor--
	case "loop":
		return lower.Way{To: opener + 1, Keep: len(x.Params), Floor: floor}
	}
	return lower.Way{To: r.belongs("end", opener) + 1, Keep: len(x.Results), Floor: floor}
}

func (r reading) out() lower.Way {
	return lower.Way{To: -1, Keep: len(r.m.Types[r.own.Type].Results)}
}

func (r reading) ways(pc int) []lower.Way {
	x, next := r.own.Code[pc], lower.Way{To: pc + 1, Floor: -1}
	switch r.word(pc) {
	case "trap":
		return nil
	case "if":
		to := r.belongs("else", pc) + 1
		if to == 0 {
			to = r.belongs("end", pc)
		}
		return []lower.Way{next, {To: to, Floor: -1}}
	case "else":
		return []lower.Way{{To: r.belongs("end", r.owners[pc]), Floor: -1}}
	case "br":
		return []lower.Way{r.label(pc, int(x.A))}
	case "brif":
		return []lower.Way{r.label(pc, int(x.A)), next}
	case "brtable":
		var list []lower.Way
		for _, number := range x.L {
			list = append(list, r.label(pc, number))
		}
		return list
	case "return":
		return []lower.Way{r.out()}
	case "end":
		if r.owners[pc] < 0 {
			return []lower.Way{r.out()}
		}
	}
	return []lower.Way{next}
}

// leads: is that place a leader?
func (r reading) leads(pc int) bool {
	if pc == 0 || strings.Contains(cutting, " "+r.word(pc-1)+" ") {
		return true
	}
	opener := r.owners[pc]
	return r.word(pc) == "end" && opener >= 0 && r.word(opener) == "if"
}

// lines counts segments from the last leader in sixteens, and what is left of one from its pc on to what ends it.
func (r reading) lines() []lower.Line {
	var list []lower.Line
	leader := 0
	for pc, x := range r.own.Code {
		if r.leads(pc) {
			leader = pc
		}
		start := leader + (pc-leader)/16*16
		behind := pc + 1
		for behind < len(r.own.Code) && behind < start+16 && !r.leads(behind) {
			behind++
		}
		list = append(list, lower.Line{Op: x.Op, A: x.A, Ways: r.ways(pc), Start: start, Left: behind - pc})
	}
	return list
}

// hold holds both calls against the document, of a module that may run.
func hold(t *testing.T, m api.Module) {
	t.Helper()
	tables, e, number, pc := validate.Module(m)
	if e != api.OK {
		t.Fatalf("%d in function %d at %d: %s", e, number, pc, told(m, max(number, 0)))
	}
	all, e := lower.Module(m)
	if e != api.OK || len(all) != len(m.Functions) {
		t.Fatalf("P18.1: Module: %d, %d functions, not %d", e, len(all), len(m.Functions))
	}
	for f := range m.Functions {
		want, got := read(m, f, tables[f]).lines(), asked(t, m, f)
		if !sameLines(got, want) {
			t.Fatalf("P18.1: Function %d: %s: %v, not %v", f, told(m, f), got, want)
		}
		if !sameLines(all[f], want) {
			t.Fatalf("P18.1: Module, function %d: %s: %v, not %v", f, told(m, f), all[f], want)
		}
	}
}

// TestOracle holds the oracle itself against the document's examples, those of chapter 12 too.
func TestOracle(t *testing.T) {
	for _, x := range []struct{ code, ways, places string }{
		{"w.const:0 if:> nop end end", "1; 2 3; 3; 4; out:0", "0/2 0/1 2/1 3/1 4/1"},
		{"loop:> br:0 end end", "1; 1:0@0; 3; out:0", "0/1 1/1 2/1 3/1"},
		{"block:> nop end nop end", "1; 2; 3; 4; out:0", "0/3 0/2 0/1 3/2 3/1"},
		{"call:0 nop end", "1; 2; out:0", "0/1 1/2 1/1"},
		{"nop*16 end", "1; 2; 3; 4; 5; 6; 7; 8; 9; 10; 11; 12; 13; 14; 15; 16; out:0", "0/16 0/15 0/14 0/13 0/12 0/11 0/10 0/9 0/8 0/7 0/6 0/5 0/4 0/3 0/2 0/1 16/1"},
	} {
		m := of(">", "", x.code)
		tables, e, _, _ := validate.Module(m)
		if e != api.OK {
			t.Fatal(e)
		}
		lines, places := read(m, 0, tables[0]).lines(), ""
		for _, l := range lines {
			places += fmt.Sprint(" ", l.Start, "/", l.Left)
		}
		if showAll(lines) != x.ways || places != " "+x.places {
			t.Errorf("%s: %s, %s", x.code, showAll(lines), places)
		}
	}
}

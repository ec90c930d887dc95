package blocks_test

import (
	"slices"
	"strings"
	"testing"

	"flagon/api"
	"flagon/blocks"
)

// What the document says, place by place, without a call of the layers around: each question is asked of the code itself, each time anew.

const cutting = " loop if else end br brif brtable return trap call host "

func opens(x api.Ins) bool {
	return strings.Contains(" block loop if ", " "+word(x)+" ")
}

// openerOf is the pc of what the end at that pc ends, -1 of the body: the last opener ahead of it with which there are more openers than ends between.
func openerOf(code []api.Ins, end int) int {
	ended := 0
	for pc := end - 1; pc >= 0; pc-- {
		switch {
		case word(code[pc]) == "end":
			ended++
		case opens(code[pc]) && ended == 0:
			return pc
		case opens(code[pc]):
			ended--
		}
	}
	return -1
}

// leads: is that place a leader?
func leads(code []api.Ins, pc int) bool {
	if pc == 0 || strings.Contains(cutting, " "+word(code[pc-1])+" ") {
		return true
	}
	if word(code[pc]) != "end" {
		return false
	}
	opener := openerOf(code, pc)
	return opener >= 0 && word(code[opener]) == "if"
}

func wantLeaders(code []api.Ins) []bool {
	var list []bool
	for pc := range code {
		list = append(list, leads(code, pc))
	}
	return list
}

// wantOf counts from the last leader in sixteens, and from each pc on to what ends its segment.
func wantOf(code []api.Ins) api.Blocks {
	var b api.Blocks
	list := wantLeaders(code)
	for pc := range code {
		leader := pc
		for !list[leader] {
			leader--
		}
		start := leader + (pc-leader)/16*16
		behind := pc + 1
		for behind < len(code) && !list[behind] && behind < start+16 {
			behind++
		}
		b.Start, b.Left = append(b.Start, start), append(b.Left, behind-pc)
	}
	return b
}

// wantTable is what control.Map says, found by the brackets.
func wantTable(code []api.Ins) api.Table {
	t := api.Table{Ends: slices.Repeat([]int{-1}, len(code)), Elses: slices.Repeat([]int{-1}, len(code))}
	for pc, x := range code {
		name := word(x)
		if name != "else" && name != "end" {
			continue
		}
		opener := openerOf(code, pc)
		switch {
		case opener < 0:
		case name == "else":
			t.Elses[opener] = pc
		default:
			t.Ends[opener] = pc
			if other := t.Elses[opener]; other >= 0 {
				t.Ends[other] = pc
			}
		}
	}
	return t
}

func same(a, b api.Blocks) bool {
	return slices.Equal(a.Start, b.Start) && slices.Equal(a.Left, b.Left)
}

// hold holds both calls against the document, of a code that control.Map takes.
func hold(t *testing.T, code []api.Ins) {
	t.Helper()
	if got, want := blocks.Leaders(code), wantLeaders(code); !slices.Equal(got, want) {
		t.Errorf("P12.1: Leaders of %s: %v, not %v", told(code), places(got), places(want))
	}
	if got, want := blocks.Of(code, wantTable(code)), wantOf(code); !same(got, want) {
		t.Errorf("P12.2: Of %s: %v, not %v", told(code), got, want)
	}
}

// refused: there is no answer of that code, whatever table is said.
func refused(t *testing.T, code []api.Ins) {
	t.Helper()
	if list := blocks.Leaders(code); len(list) != 0 {
		t.Errorf("P12.1: Leaders of %s: %v", told(code), list)
	}
	none := slices.Repeat([]int{-1}, len(code))
	for _, table := range []api.Table{{}, {Ends: []int{}, Elses: []int{}}, {Ends: none, Elses: none}, wantTable(code)} {
		zeroOf(t, code, table)
	}
}

func zeroOf(t *testing.T, code []api.Ins, table api.Table) {
	t.Helper()
	if b := blocks.Of(code, table); len(b.Start) != 0 || len(b.Left) != 0 {
		t.Errorf("P12.2: Of %s with ends %v, elses %v: %v", told(code), table.Ends, table.Elses, b)
	}
}

// TestOracle holds the oracle itself against the document's example of an if.
func TestOracle(t *testing.T) {
	code := written("if nop else nop end end")
	if l := places(wantLeaders(code)); !slices.Equal(l, []int{0, 1, 3, 4, 5}) {
		t.Errorf("%v", l)
	}
	if b := wantOf(code); !same(b, api.Blocks{Start: []int{0, 1, 1, 3, 4, 5}, Left: []int{1, 2, 1, 1, 1, 1}}) {
		t.Errorf("%v", b)
	}
	if table := wantTable(code); !slices.Equal(table.Ends, []int{4, -1, 4, -1, -1, -1}) || !slices.Equal(table.Elses, []int{2, -1, -1, -1, -1, -1}) {
		t.Errorf("%v", table)
	}
}

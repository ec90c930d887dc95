package profile_test

import (
	"slices"
	"strings"
	"testing"

	"flagon/api"
	"flagon/profile"
)

// What the document says of segments, lines and opcodes, without a call of the layers around.

const cutting = " loop if else end br brif brtable return trap call host "

// leaders: chapter 12's; what is open is kept meanwhile, the innermost last.
func leaders(code []api.Ins) []bool {
	list := make([]bool, len(code))
	var open []string
	for pc, x := range code {
		word := wordOf[x.Op]
		list[pc] = pc == 0 || strings.Contains(cutting, " "+wordOf[code[pc-1].Op]+" ")
		switch {
		case strings.Contains(" block loop if ", " "+word+" "):
			open = append(open, word)
		case word == "end" && len(open) > 0:
			list[pc] = list[pc] || open[len(open)-1] == "if"
			open = open[:len(open)-1]
		}
	}
	return list
}

// bounds: where each segment begins, and the pc behind it.
func bounds(code []api.Ins) [][2]int {
	var list [][2]int
	leads := leaders(code)
	start := 0
	for pc := range code {
		if pc > start && (leads[pc] || pc-start == mostBlock) {
			list = append(list, [2]int{start, pc})
			start = pc
		}
	}
	return append(list, [2]int{start, len(code)})
}

// wantLines: a line of each segment in which a number is above 0.
func wantLines(m api.Module, counts [][]int64) []profile.Line {
	var list []profile.Line
	for function, f := range m.Functions {
		for _, b := range bounds(f.Code) {
			executed, all := false, uint64(0)
			for _, n := range counts[function][b[0]:b[1]] {
				executed = executed || n > 0
				all += uint64(n)
			}
			if executed {
				list = append(list, profile.Line{Function: function, Start: b[0], Entered: counts[function][b[0]], Fuel: int64(all)})
			}
		}
	}
	return list
}

// wantOps: at each place what stands at the instructions of that opcode.
func wantOps(m api.Module, counts [][]int64) []int64 {
	list := make([]int64, 256)
	for op := range list {
		for function, f := range m.Functions {
			for pc, x := range f.Code {
				if int(x.Op) == op {
					list[op] = int64(uint64(list[op]) + uint64(counts[function][pc]))
				}
			}
		}
	}
	return list
}

// holds holds Lines and Ops of those counts against the document.
func holds(t *testing.T, m api.Module, counts [][]int64) ([]profile.Line, []int64) {
	t.Helper()
	lines, ops := linesOf(t, m, counts), opsOf(t, m, counts)
	if want := wantLines(m, counts); !slices.Equal(lines, want) {
		t.Fatalf("P27.2: %s, %s: %s, not %s", code(m, 0), saidCounts(counts), saidLines(lines), saidLines(want))
	}
	if want := wantOps(m, counts); !slices.Equal(ops, want) {
		t.Fatalf("P27.3: %s, %s: %s, not %s", code(m, 0), saidCounts(counts), saidOps(ops), saidOps(want))
	}
	return lines, ops
}

// TestOracle holds the oracle itself against chapter 12's examples.
func TestOracle(t *testing.T) {
	for text, starts := range map[string][]int{
		"nop nop end":               {0},
		"block:> nop end nop end":   {0, 3},
		"loop:> nop end end":        {0, 1, 3},
		"if:> nop else nop end end": {0, 1, 3, 4, 5},
		"call:0 nop end":            {0, 1},
		"nop*20 end":                {0, 16},
	} {
		var m api.Module
		code := written(&m, text)
		var got []int
		for _, b := range bounds(code) {
			got = append(got, b[0])
		}
		if !slices.Equal(got, starts) {
			t.Errorf("%s: %v, not %v", text, got, starts)
		}
	}
}

package profile_test

import (
	"fmt"
	"math"
	"math/rand"
	"slices"
	"strings"
	"testing"

	"flagon/api"
	"flagon/profile"
	"flagon/validate"
)

const top = math.MaxInt64

// TestNoFunctions: of a module without functions there is nothing to tell, but 256 noughts.
func TestNoFunctions(t *testing.T) {
	for _, m := range []api.Module{{}, {Functions: []api.Function{}, First: 1, Most: 2}} {
		for _, counts := range [][][]int64{nil, {}, make([][]int64, 0, 9)} {
			says(t, m, counts, "", "")
		}
	}
}

// TestOthers: counts that no run gives: what is executed behind a segment's first instruction alone, each place of it; a line of it says that it was entered 0 times.
func TestOthers(t *testing.T) {
	m := of(">", "", "nop nop nop if:> nop nop nop end nop*20 end")
	m.Functions[0].Code[2] = api.Ins{Op: opcodeOf["w.const"]} // nop nop w.const if, nop nop nop, end, sixteen nops, four and an end
	begins := []int{0, 0, 0, 0, 4, 4, 4, 7}
	begins = append(append(begins, slices.Repeat([]int{8}, 16)...), slices.Repeat([]int{24}, 5)...)
	for pc, start := range begins {
		counts := nones(m)
		says(t, m, counts, "", "")
		for _, n := range []int64{1, 2, 7, 1 << 32, top - 1, top} {
			counts[0][pc] = n
			entered := n
			if pc != start {
				entered = 0
			}
			says(t, m, counts, fmt.Sprint("0 ", start, " ", entered, " ", n), fmt.Sprint(wordOf[m.Functions[0].Code[pc].Op], " ", n))
		}
	}
	counts := nones(m)
	counts[0][2], counts[0][5], counts[0][6], counts[0][23], counts[0][24] = 5, 6, 7, 8, 9
	says(t, m, counts, "0 0 0 5, 0 4 0 13, 0 8 0 8, 0 24 9 9", "nop 30, w.const 5")
	counts[0][0], counts[0][7] = 1, 2
	says(t, m, counts, "0 0 1 6, 0 4 0 13, 0 7 2 2, 0 8 0 8, 0 24 9 9", "nop 31, end 2, w.const 5")
}

// TestRoundIt: what is told together goes round; a segment whose numbers come to 0 so has a line all the same.
func TestRoundIt(t *testing.T) {
	m := of(">", "", "nop nop nop nop end")
	for _, x := range []struct {
		counts     []int64
		lines, ops string
	}{
		{[]int64{top, 0, 0, 0, 0}, "0 0 9223372036854775807 9223372036854775807", "nop 9223372036854775807"},
		{[]int64{top, 1, 0, 0, 0}, "0 0 9223372036854775807 -9223372036854775808", "nop -9223372036854775808"},
		{[]int64{top, top, 0, 0, 0}, "0 0 9223372036854775807 -2", "nop -2"},
		{[]int64{top, top, 1, 0, 0}, "0 0 9223372036854775807 -1", "nop -1"},
		{[]int64{top, top, 2, 0, 0}, "0 0 9223372036854775807 0", ""},
		{[]int64{0, top, top, 2, 0}, "0 0 0 0", ""},
		{[]int64{0, top, top, 1, 1}, "0 0 0 0", "nop -1, end 1"},
		{[]int64{1, top, top, 2, 0}, "0 0 1 1", "nop 1"},
		{[]int64{top, top, top, 0, 0}, "0 0 9223372036854775807 9223372036854775805", "nop 9223372036854775805"},
		{[]int64{top, top, top, top, top}, "0 0 9223372036854775807 9223372036854775803", "nop -4, end 9223372036854775807"},
		{[]int64{1 << 62, 1 << 62, 1 << 62, 1 << 62, 0}, "0 0 4611686018427387904 0", ""},
	} {
		says(t, m, [][]int64{x.counts}, x.lines, x.ops)
	}
	two := of(">", "", "nop nop end") // Ops goes round over functions; Lines does not
	put(&two, ">", "", "nop nop end")
	says(t, two, [][]int64{{top, 0, 1}, {0, top, 2}}, "0 0 9223372036854775807 -9223372036854775808, 1 0 0 -9223372036854775807", "nop -2, end 3")
	says(t, two, [][]int64{{top, 0, 0}, {top, 2, 0}}, "0 0 9223372036854775807 9223372036854775807, 1 0 9223372036854775807 -9223372036854775807", "")
}

// TestOrder: lines by functions, and by beginnings in each, however great their numbers are.
func TestOrder(t *testing.T) {
	var m api.Module
	for range 5 {
		put(&m, ">", "", "call:0 nop call:1 loop:> nop end nop*17 end")
	}
	starts := []int{0, 1, 3, 4, 6, 22}
	counts := nones(m)
	n := int64(1000)
	var want []profile.Line
	for function := range counts {
		for _, start := range starts {
			n -= 7
			counts[function][start] = n
			want = append(want, profile.Line{Function: function, Start: start, Entered: n, Fuel: n})
		}
	}
	if lines := linesOf(t, m, counts); !slices.Equal(lines, want) {
		t.Errorf("P27.2: %s, not %s", saidLines(lines), saidLines(want))
	}
	counts = nones(m)
	for at, function := range []int{4, 1, 3, 0, 2} { // the same, put down in another order
		for _, start := range []int{22, 0, 6, 1, 4, 3} {
			counts[function][start] = int64(1 + at)
		}
	}
	lines := linesOf(t, m, counts)
	for at, x := range lines {
		if x.Function != at/6 || x.Start != starts[at%6] || x.Entered != counts[x.Function][x.Start] {
			t.Errorf("P27.2: at %d: %v", at, x)
		}
	}
	if len(lines) != 30 {
		t.Errorf("P27.2: %d lines", len(lines))
	}
}

// every is a module that has each instruction of chapter 3's table, at least once.
func every() api.Module {
	m := api.Module{First: 1, Most: 1, Globals: []api.Global{{Letter: 'w', Mutable: true}}}
	m.Hosts = []int{kind(&m, ">")}
	code := "nop block:> end loop:> end w.const:1 if:> else end w.const:1 brif:0 call:0 host:0 w.const:1 drop w.const:1 w.const:2 w.const:3 select set:0 get:0 tee:0 gset:0 gget:0 drop block:> trap end block:> br:0 end block:> w.const:0 brtable:0 end block:> return end "
	for op := range 256 {
		x, found := plain[wordOf[byte(op)]]
		if !found || op < 0x20 {
			continue
		}
		for _, letter := range x.pops {
			code += string(letter) + ".const:1 "
		}
		code += wordOf[byte(op)] + strings.Repeat(" drop", len(x.pushes)) + " "
	}
	put(&m, ">", "w", code+"l.const:1 drop end")
	return m
}

// TestOps: a number for each of 256 opcodes: 0 of those that the module has not, and of those that no instruction has.
func TestOps(t *testing.T) {
	m := every()
	if _, e, at, pc := validate.Module(m); e != api.OK {
		t.Fatalf("%d at %d, %d", e, at, pc)
	}
	counts, want := nones(m), make([]int64, 256)
	for pc, x := range m.Functions[0].Code {
		counts[0][pc] = int64(1 + pc*pc)
		want[x.Op] += int64(1 + pc*pc)
	}
	ops := opsOf(t, m, counts)
	if !slices.Equal(ops, want) {
		t.Errorf("P27.3: %s, not %s", saidOps(ops), saidOps(want))
	}
	for op, n := range ops {
		if (n > 0) != (wordOf[byte(op)] != "") {
			t.Errorf("P27.3: %d: %d", op, n)
		}
	}
	for pc, x := range m.Functions[0].Code { // each one alone
		one := nones(m)
		one[0][pc] = 3
		if got := saidOps(opsOf(t, m, one)); got != wordOf[x.Op]+" 3" {
			t.Errorf("P27.3: at %d: %s", pc, got)
		}
	}
	says(t, m, nones(m), "", "")
}

// TestGreatest: modules of as many functions and instructions as there may be.
func TestGreatest(t *testing.T) {
	long := of(">", "", "nop*2047 end")
	counts := nones(long)
	for pc := range counts[0] {
		counts[0][pc] = int64(pc)
	}
	lines, _ := holds(t, long, counts)
	if len(lines) != 128 || lines[127] != (profile.Line{Start: 2032, Entered: 2032, Fuel: 16*2032 + 120}) {
		t.Errorf("P27.2: %d lines: %s", len(lines), saidLines(lines))
	}
	var most api.Module
	for range 128 {
		put(&most, ">", "", "w.const:1 if:> nop end nop*123 end")
	}
	counts = nones(most)
	for function := range counts {
		for pc := range counts[function] {
			counts[function][pc] = int64(function)
		}
	}
	lines, ops := holds(t, most, counts)
	if len(lines) != 127*11 || ops[opcodeOf["nop"]] != 124*127*64 {
		t.Errorf("P27.2, P27.3: %d lines, %s", len(lines), saidOps(ops))
	}
}

// TestDrawnNumbers: drawn numbers beside drawn modules.
func TestDrawnNumbers(t *testing.T) {
	r := rand.New(rand.NewSource(271))
	zero, below := 0, 0
	for range 1500 {
		m := drawnModule(r)
		counts := drawnCounts(r, m)
		lines, ops := holds(t, m, counts)
		for _, x := range lines {
			if x.Entered == 0 {
				zero++
			}
			if x.Fuel < 0 {
				below++
			}
		}
		fuel, all := int64(0), int64(0)
		for _, x := range lines {
			fuel += x.Fuel
		}
		for _, n := range ops {
			all += n
		}
		if fuel != all {
			t.Fatalf("P27.2, P27.3: %s, %s", saidLines(lines), saidOps(ops))
		}
	}
	if zero < 100 || below < 100 {
		t.Errorf("%d lines that were not entered, %d that go round", zero, below)
	}
}

// drawnCounts: numbers for a module, many of them 0, some as great as they may be.
func drawnCounts(r *rand.Rand, m api.Module) [][]int64 {
	counts := nones(m)
	for function := range counts {
		seldom := 1 + r.Intn(9)
		for pc := range counts[function] {
			if r.Intn(seldom) == 0 {
				counts[function][pc] = []int64{0, 1, int64(r.Intn(100)), r.Int63(), top - int64(r.Intn(3))}[r.Intn(5)]
			}
		}
	}
	return counts
}

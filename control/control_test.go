package control_test

import (
	"math"
	"math/rand"
	"slices"
	"strings"
	"testing"

	"flagon/api"
	"flagon/control"
)

func ask(code []api.Ins) mapped {
	var m mapped
	m.ends, m.elses, m.owners, m.e, m.pc = control.Map(code)
	return m
}

func same(a, b mapped) bool {
	return slices.Equal(a.ends, b.ends) && slices.Equal(a.elses, b.elses) && slices.Equal(a.owners, b.owners) && a.e == b.e && a.pc == b.pc
}

// holdMap holds Map against the document.
func holdMap(t *testing.T, d *reading) {
	t.Helper()
	if got, want := ask(d.code), d.wantMap(); !same(got, want) {
		t.Errorf("P9.1: Map of %s: %v, not %v", told(d.code), got, want)
	}
}

// holdAt holds Labels and Next at a pc.
func holdAt(t *testing.T, d *reading, pc int) {
	t.Helper()
	if got, want := control.Labels(d.code, pc), d.wantLabels(pc); !slices.Equal(got, want) {
		t.Errorf("P9.2: Labels of %s at %d: %v, not %v", told(d.code), pc, got, want)
	}
	if got, want := control.Next(d.code, pc), d.wantNext(pc); !slices.Equal(got, want) {
		t.Errorf("P9.3: Next of %s at %d: %v, not %v", told(d.code), pc, got, want)
	}
}

// hold holds all three, at each pc and around the code.
func hold(t *testing.T, code []api.Ins) {
	t.Helper()
	d := read(code)
	holdMap(t, d)
	for pc := -2; pc <= len(code)+1; pc++ {
		holdAt(t, d, pc)
	}
}

// refused: is it that error, there, with nothing beside it, and are there no labels and no places at any pc?
func refused(t *testing.T, code []api.Ins, e api.Errno, pc int) {
	t.Helper()
	m := ask(code)
	if m.e != e || m.pc != pc || len(m.ends)+len(m.elses)+len(m.owners) != 0 {
		t.Errorf("P9.1: Map of %s: %v, not %d at %d", told(code), m, e, pc)
	}
	for _, at := range []int{-1, 0, pc - 1, pc, len(code) - 1, len(code)} {
		if l := control.Labels(code, at); len(l) != 0 {
			t.Errorf("P9.2: Labels of %s at %d: %v", told(code), at, l)
		}
		if l := control.Next(code, at); len(l) != 0 {
			t.Errorf("P9.3: Next of %s at %d: %v", told(code), at, l)
		}
	}
}

func TestMapExamples(t *testing.T) {
	for _, x := range []struct {
		code                string
		ends, elses, owners []int
	}{
		{"end", []int{-1}, []int{-1}, []int{-1}},
		{"nop end", []int{-1, -1}, []int{-1, -1}, []int{-1, -1}},
		{"block nop end end", []int{2, -1, -1, -1}, []int{-1, -1, -1, -1}, []int{-1, 0, 0, -1}},
		{"if end end", []int{1, -1, -1}, []int{-1, -1, -1}, []int{-1, 0, -1}},
		{"if else end end", []int{2, 2, -1, -1}, []int{1, -1, -1, -1}, []int{-1, 0, 0, -1}},
		{"if if else end else end end", []int{5, 3, 3, -1, 5, -1, -1}, []int{4, 2, -1, -1, -1, -1, -1}, []int{-1, 0, 1, 1, 0, 0, -1}},
		{"loop if end end block end end", []int{3, 2, -1, -1, 5, -1, -1}, []int{-1, -1, -1, -1, -1, -1, -1}, []int{-1, 0, 1, 0, -1, 4, -1}},
		{"if else block end end end", []int{4, 4, 3, -1, -1, -1}, []int{1, -1, -1, -1, -1, -1}, []int{-1, 0, 0, 2, 0, -1}},
	} {
		m := ask(written(x.code))
		if want := (mapped{x.ends, x.elses, x.owners, api.OK, 0}); !same(m, want) {
			t.Errorf("P9.1: Map of %s: %v, not %v", x.code, m, want)
		}
	}
}

func TestMapRefusals(t *testing.T) {
	for _, x := range []struct {
		code string
		e    api.Errno
		pc   int
	}{
		{"", api.ErrCut, 0}, {"nop", api.ErrCut, 1}, {"block end", api.ErrCut, 2}, {"block", api.ErrCut, 1}, {"if else end", api.ErrCut, 3}, {"loop block end nop end", api.ErrCut, 5}, {"if else", api.ErrCut, 2}, {"br:0 return trap", api.ErrCut, 3},
		{"end nop", api.ErrRest, 1}, {"end end", api.ErrRest, 1}, {"end end end end", api.ErrRest, 1}, {"end block", api.ErrRest, 1}, {"end else", api.ErrRest, 1}, {"block end end ff", api.ErrRest, 3}, {"end block end", api.ErrRest, 1}, {"if else end end else", api.ErrRest, 4}, {"end trap end", api.ErrRest, 1}, {"end if else else", api.ErrRest, 1},
		{"else", api.ErrElse, 0}, {"else end", api.ErrElse, 0}, {"nop else", api.ErrElse, 1}, {"block else end end", api.ErrElse, 1}, {"loop else end end", api.ErrElse, 1}, {"if else else end end", api.ErrElse, 2}, {"if else nop else", api.ErrElse, 3},
		{"if end else end", api.ErrElse, 2}, {"if block else end end end", api.ErrElse, 2}, {"if loop else end end end", api.ErrElse, 2}, {"if else if else end else end end", api.ErrElse, 5}, {"if else block end else", api.ErrElse, 4}, {"block if end else end end", api.ErrElse, 3}, {"if if else end else end else end", api.ErrElse, 6},
		{"else end nop", api.ErrElse, 0}, {"block else end end nop nop", api.ErrElse, 1}, {"if else else block block", api.ErrElse, 2},
	} {
		refused(t, written(x.code), x.e, x.pc)
		hold(t, written(x.code))
	}
}

// TestDepth: 31, 32 and 33 openers within one another, of each kind, and 32 again where some have ended.
func TestDepth(t *testing.T) {
	for _, open := range []string{"block", "loop", "if", "block loop if", "if if block"} {
		kinds := strings.Fields(open)
		nest := func(count int) string {
			var list []string
			for at := range count {
				list = append(list, kinds[at%len(kinds)])
			}
			return strings.Join(list, " ") + " "
		}
		ends := func(count int) string { return strings.Repeat("end ", count) }
		for _, count := range []int{1, 2, 31, 32} {
			code := written(nest(count) + "nop " + ends(count+1))
			m := ask(code)
			if m.e != api.OK || m.owners[count] != count-1 || m.ends[0] != 2*count {
				t.Fatalf("P9.1: %d times %s: %d at %d", count, open, m.e, m.pc)
			}
			if l := control.Labels(code, count); len(l) != count+1 || l[0] != count-1 || l[count] != -1 {
				t.Errorf("P9.2: %d times %s: %v", count, open, l)
			}
			hold(t, code)
		}
		for _, count := range []int{33, 34, 100} {
			refused(t, written(nest(count)), api.ErrDeep, 32)
			refused(t, written(nest(count)+ends(count+1)), api.ErrDeep, 32)
			refused(t, written("nop block end "+nest(count)+"else"), api.ErrDeep, 35)
		}
		again := nest(32) + ends(1) + kinds[0] + " "
		hold(t, written(again+ends(33)))
		refused(t, written(again+"block "+ends(34)), api.ErrDeep, 34)
		refused(t, written(nest(32)+ends(32)+nest(33)), api.ErrDeep, 96)
		hold(t, written(strings.Repeat(nest(32)+ends(32), 3)+"end"))
	}
	deep := strings.Repeat("if else ", 32)
	hold(t, written(deep+strings.Repeat("end ", 33)))
	refused(t, written(deep+"if"), api.ErrDeep, 64)
	refused(t, written(deep+"else"), api.ErrElse, 64)
	refused(t, written(deep+"nop else if"), api.ErrElse, 65)
	refused(t, written("if else else "+strings.Repeat("block ", 40)), api.ErrElse, 2)
	refused(t, written("end "+strings.Repeat("block ", 40)), api.ErrRest, 1)
	refused(t, written(strings.Repeat("block ", 32)), api.ErrCut, 32)
}

// TestSmall goes through all codes of up to seven of these words.
func TestSmall(t *testing.T) {
	kinds := []byte{opcode("block"), opcode("loop"), opcode("if"), opcode("else"), opcode("end"), opcode("nop")}
	taken := 0
	var grow func(code []api.Ins, left int)
	grow = func(code []api.Ins, left int) {
		if m := read(code); m.e == api.OK {
			taken++
			hold(t, code)
		} else {
			refused(t, code, m.e, m.pc)
		}
		if left == 0 || t.Failed() {
			return
		}
		for _, op := range kinds {
			grow(append(slices.Clone(code), api.Ins{Op: op}), left-1)
		}
	}
	grow(nil, 7)
	if taken < 50 {
		t.Errorf("no more than %d of the small codes are taken", taken)
	}
}

// TestSmallBranches goes through all codes of up to five words, those of branches among them.
func TestSmallBranches(t *testing.T) {
	kinds := written("block loop if else end br:0 brif:1 brtable:0,1,2 return trap 0d")
	var grow func(code []api.Ins, left int)
	grow = func(code []api.Ins, left int) {
		hold(t, append(slices.Clone(code), api.Ins{Op: opcode("end")}))
		if left == 0 || t.Failed() {
			return
		}
		for _, x := range kinds {
			grow(append(slices.Clone(code), x), left-1)
		}
	}
	grow(nil, 4)
}

// TestOtherPcs: those that are no instruction's.
func TestOtherPcs(t *testing.T) {
	for _, text := range []string{"end", "nop end", "block loop br:0 end end end", "if else end end"} {
		code := written(text)
		for _, pc := range []int{math.MinInt, math.MinInt + 1, -1 << 32, -2, -1, len(code), len(code) + 1, 1 << 32, math.MaxInt - 1, math.MaxInt} {
			if l := control.Labels(code, pc); len(l) != 0 {
				t.Errorf("P9.2: Labels of %s at %d: %v", text, pc, l)
			}
			if l := control.Next(code, pc); len(l) != 0 {
				t.Errorf("P9.3: Next of %s at %d: %v", text, pc, l)
			}
		}
		last := len(code) - 1
		if l := control.Labels(code, last); !slices.Equal(l, []int{-1}) {
			t.Errorf("P9.2: Labels of %s at its last end: %v", text, l)
		}
		if l := control.Next(code, last); !slices.Equal(l, []int{len(code)}) {
			t.Errorf("P9.3: Next of %s at its last end: %v", text, l)
		}
	}
}

func TestLabels(t *testing.T) {
	code := written("block loop if br:0 else nop end end nop end end")
	for pc, want := range [][]int{{-1}, {0, -1}, {1, 0, -1}, {2, 1, 0, -1}, {2, 1, 0, -1}, {2, 1, 0, -1}, {2, 1, 0, -1}, {1, 0, -1}, {0, -1}, {0, -1}, {-1}} {
		if l := control.Labels(code, pc); !slices.Equal(l, want) {
			t.Errorf("P9.2: Labels at %d: %v, not %v", pc, l, want)
		}
	}
}

func TestNextRows(t *testing.T) {
	for _, x := range []struct {
		code string
		pc   int
		want []int
	}{
		{"trap end", 0, nil},
		{"if nop end end", 0, []int{1, 2}}, {"if end end", 0, []int{1}}, {"if else end end", 0, []int{1, 2}}, {"if nop nop else nop end end", 0, []int{1, 4}}, {"if else nop end end", 0, []int{1, 2}},
		{"if if else end else nop end end", 0, []int{1, 5}}, {"if if else end nop end end", 0, []int{1, 5}},
		{"if else end end", 1, []int{2}}, {"if nop else nop nop end end", 2, []int{5}}, {"if else if else end end end", 1, []int{5}}, {"if else if else end end end", 3, []int{4}},
		{"block loop br:0 end end end", 2, []int{2}}, {"block loop br:1 end end end", 2, []int{5}}, {"block loop br:2 end end end", 2, []int{6}}, {"block loop br:3 end end end", 2, nil},
		{"block loop brif:0 end end end", 2, []int{2, 3}}, {"block loop brif:1 end end end", 2, []int{3, 5}}, {"block loop brif:2 end end end", 2, []int{3, 6}}, {"block loop brif:3 end end end", 2, []int{3}},
		{"block brif:0 end end", 1, []int{2, 3}}, {"brif:0 end", 0, []int{1, 2}}, {"br:0 end", 0, []int{2}}, {"br:1 end", 0, nil},
		{"if br:0 else brif:0 end nop end", 1, []int{5}}, {"if br:0 else brif:0 end nop end", 3, []int{4, 5}},
		{"block block end br:0 end nop end", 3, []int{5}}, {"loop nop nop nop br:0 end end", 4, []int{1}},
		{"block brtable:0,1,1,0 end end", 1, []int{3, 4}}, {"block brtable:1,0 end end", 1, []int{3, 4}}, {"block brtable end end", 1, nil}, {"block brtable:2,7,-1 end end", 1, nil}, {"block loop brtable:5,2,0,1,0,-3 end end end", 2, []int{2, 5, 6}}, {"block loop brtable:0,0,0 end end end", 2, []int{2}},
		{"return end", 0, []int{2}}, {"block loop return nop end end nop end", 2, []int{8}},
		{"nop end", 0, []int{1}}, {"nop end", 1, []int{2}}, {"block end end", 0, []int{1}}, {"block end end", 1, []int{2}}, {"loop end end", 0, []int{1}}, {"loop end end", 1, []int{2}}, {"call:0 host:3 end", 0, []int{1}}, {"call:0 host:3 end", 1, []int{2}},
		{"if nop end end", 2, []int{3}}, {"if else end end", 2, []int{3}},
	} {
		code := written(x.code)
		if l := control.Next(code, x.pc); !slices.Equal(l, x.want) {
			t.Errorf("P9.3: Next of %s at %d: %v, not %v", x.code, x.pc, l, x.want)
		}
		hold(t, code)
	}
}

// TestNumbers: branches at each label, one beyond, far beyond and below 0, at each depth.
func TestNumbers(t *testing.T) {
	for _, depth := range []int{0, 1, 2, 3, 31, 32} {
		var head []string
		for at := range depth {
			head = append(head, []string{"block", "loop", "if"}[at%3])
		}
		around := strings.Join(head, " ")
		tail := strings.Repeat(" end", depth+1)
		numbers := []int64{math.MinInt64, math.MinInt64 + 1, -1 << 32, -1<<32 + 1, -2, -1, 33, 34, 255, 256, 257, 1 << 16, 1 << 31, 1<<32 - 1, 1 << 32, 1<<32 + 1, 1 << 62, math.MaxInt64 - 1, math.MaxInt64}
		for n := range int64(depth + 3) {
			numbers = append(numbers, n)
		}
		var all []int
		for _, n := range numbers {
			all = append(all, int(n))
			for _, name := range []string{"br", "brif", "brtable"} {
				code := written(around + " " + name + tail)
				code[depth].A, code[depth].L = n, []int{int(n)}
				holdAt(t, read(code), depth)
				l := control.Next(code, depth)
				if (n < 0 || n > int64(depth)) && name != "brif" && len(l) != 0 {
					t.Errorf("P9.3: %s %d in %d openers: %v", name, n, depth, l)
				}
			}
		}
		code := written(around + " brtable" + tail)
		code[depth].L = all
		holdAt(t, read(code), depth)
	}
}

// TestWhichNumber: a br and a brif go by A alone, a brtable by L alone, and all others by neither.
func TestWhichNumber(t *testing.T) {
	code := written("block loop br brif brtable nop return trap if else end end end end")
	for i := range code {
		code[i].A, code[i].L = 1, []int{0, 2}
	}
	hold(t, code)
	if l := control.Next(code, 2); !slices.Equal(l, []int{13}) {
		t.Errorf("P9.3: br: %v", l)
	}
	if l := control.Next(code, 4); !slices.Equal(l, []int{2, 14}) {
		t.Errorf("P9.3: brtable: %v", l)
	}
}

// TestAllBytes: each byte as an opcode, those that are none's too, open and inside an if.
func TestAllBytes(t *testing.T) {
	for op := range 256 {
		x := api.Ins{Op: byte(op), A: 1, L: []int{1}}
		end := api.Ins{Op: opcode("end")}
		hold(t, []api.Ins{x, end})
		hold(t, []api.Ins{x, end, end})
		hold(t, []api.Ins{{Op: opcode("if")}, x, end, end})
		hold(t, []api.Ins{{Op: opcode("if")}, x, end, end, end})
		code := []api.Ins{{Op: opcode("loop")}, x, end, end}
		if op > 0x0a {
			if l := control.Next(code, 1); !slices.Equal(l, []int{2}) {
				t.Errorf("P9.3: opcode %x: %v", op, l)
			}
			if m := ask(code); !slices.Equal(m.ends, []int{2, -1, -1, -1}) {
				t.Errorf("P9.1: opcode %x: %v", op, m)
			}
		}
	}
}

// TestLong: a code that is longer than a module may have, flat and deep.
func TestLong(t *testing.T) {
	const count = 100000
	code := slices.Repeat(written("nop"), count)
	refused(t, code, api.ErrCut, count)
	code = append(code, written("end")...)
	if m := ask(code); m.e != api.OK || len(m.ends) != count+1 || len(m.elses) != count+1 || len(m.owners) != count+1 {
		t.Errorf("P9.1: %d nops: %d at %d", count, m.e, m.pc)
	}
	if l := control.Next(code, count); !slices.Equal(l, []int{count + 1}) {
		t.Errorf("P9.3: %v", l)
	}
	code = append(slices.Repeat(written("block if else end end"), count), written("end")...)
	m := ask(code)
	if m.e != api.OK {
		t.Fatalf("P9.1: %d at %d", m.e, m.pc)
	}
	for at := 0; at < 5*count; at += 5 {
		if m.ends[at] != at+4 || m.ends[at+1] != at+3 || m.elses[at+1] != at+2 || m.ends[at+2] != at+3 || m.owners[at] != -1 || m.owners[at+4] != at {
			t.Fatalf("P9.1: at %d", at)
		}
	}
	refused(t, append(code, written("nop")...), api.ErrRest, 5*count+1)
}

func TestDrawn(t *testing.T) {
	r := rand.New(rand.NewSource(9))
	for range 1500 {
		code := drawn(r, 1+r.Intn(40), 1+r.Intn(8))
		if m := ask(code); m.e != api.OK {
			t.Fatalf("P9.1: Map of %s: %d at %d", told(code), m.e, m.pc)
		}
		hold(t, code)
		spoilt := copied(code)
		for range 1 + r.Intn(2) {
			spoilt[r.Intn(len(spoilt))].Op = byte(r.Intn(12))
		}
		hold(t, spoilt)
		hold(t, code[:r.Intn(len(code))])
		if t.Failed() {
			return
		}
	}
}

package step_test

import (
	"fmt"
	"maps"
	"math"
	"math/rand"
	"slices"
	"strings"
	"testing"

	"flagon/api"
	"flagon/nums"
	"flagon/step"
	"flagon/text"
)

// TestExamples: the chapter's.
func TestExamples(t *testing.T) {
	five := of(">w", "", "w.const:5 end")
	comes(t, five, nil, begun(five), 2, "halted used 2 results 5")
	trap := of(">", "", "trap end")
	comes(t, trap, nil, begun(trap), 1, "trapped used 1 trap 1")
	without := of(">", "", "w.const:0 if:> nop end end")
	comes(t, without, nil, begun(without), 3, "suspended used 3 frame 0 at 4 locals stack")
	comes(t, without, nil, begun(without), 4, "halted used 4 results")
	with := of(">", "", "w.const:1 if:> nop end end")
	comes(t, with, nil, begun(with), 4, "suspended used 4 frame 0 at 4 locals stack")
	comes(t, with, nil, begun(with), 5, "halted used 5 results")
	zero := of(">w", "", "w.const:1 w.const:0 w.divs end")
	comes(t, zero, nil, begun(zero), 3, "trapped used 3 trap 3")
	round := of(">", "", "loop:> br:0 end end")
	for n := range 40 {
		want := "suspended used 0 frame 0 at 0 locals stack"
		if n > 0 {
			want = fmt.Sprint("suspended used ", n, " frame 0 at 1 locals stack")
		}
		comes(t, round, nil, begun(round), n, want)
	}
	if s, e := step.Steps(round, nil, begun(round), 3000000); e != api.OK || s.End != suspended || s.Used != 3000000 {
		t.Errorf("chapter 16: round: %d, %s", e, show(s))
	}
}

// parsed is the module of a text of chapter 6.
func parsed(t *testing.T, source string) api.Module {
	t.Helper()
	m, e, line := text.Parse(source)
	if e != api.OK {
		t.Fatalf("%d at %d", e, line)
	}
	return m
}

// TestWhole: the document's examples of the whole, as far as they are steps.
func TestWhole(t *testing.T) {
	one := parsed(t, "flagon\ntype - -> w\nmemory 1 2\nfunc 0 -\n  w.const 5\n  end\nexport main 0\n")
	comes(t, one, nil, begun(one), 0, "suspended used 0 frame 0 at 0 locals stack pages 1 0")
	comes(t, one, nil, begun(one), 1, "suspended used 1 frame 0 at 1 locals stack 5 pages 1 0")
	comes(t, one, nil, begun(one), 10, "halted used 2 results 5 pages 1 0")
	add := parsed(t, "flagon\ntype - -> w\nmemory 0 0\nfunc 0 -\n  w.const 5\n  w.const 6\n  w.add\n  end\nexport main 0\n")
	comes(t, add, nil, begun(add), 9, "halted used 4 results 11")
	down := parsed(t, "flagon\ntype - -> -\ntype w -> w\nmemory 0 0\nfunc 1 -\n  loop 0\n    get 0\n    w.const 1\n    w.sub\n    tee 0\n    brif 0\n  end\n  w.const 7\n  end\nexport down 0\n")
	comes(t, down, nil, begun(down, 3), 8, "suspended used 8 frame 0 at 3 locals 2 stack 2 1")
	comes(t, down, nil, begun(down, 3), 108, "halted used 19 results 7")
	div := parsed(t, "flagon\ntype ww -> w\nmemory 0 0\nfunc 0 -\n  get 0\n  get 1\n  w.divs\n  end\nexport div 0\n")
	comes(t, div, nil, begun(div, 7, 4294967294), 9, "halted used 4 results 4294967293")
	comes(t, div, nil, begun(div, 7, 0), 9, "trapped used 3 trap 3")
	comes(t, div, nil, begun(div, 2147483648, 4294967295), 9, "trapped used 3 trap 4")
	fact := parsed(t, "flagon\ntype l -> l\ntype - -> l\nmemory 0 0\nfunc 0 -\n  get 0\n  l.eqz\n  if 1\n    l.const 1\n  else\n    get 0\n    get 0\n    l.const 1\n    l.sub\n    call 0\n    l.mul\n  end\n  end\nexport fact 0\n")
	comes(t, fact, nil, begun(fact, 5), 20, "suspended used 20 frame 0 at 9 locals 5 stack 5 frame 0 at 9 locals 4 stack 4 frame 0 at 6 locals 3 stack 3")
	comes(t, fact, nil, begun(fact, 5), 1020, "halted used 62 results 120")
	memory := parsed(t, "flagon\ntype - -> w\nmemory 1 2\nfunc 0 -\n  w.const 8\n  w.const -2\n  w.store 4\n  w.const 1\n  grow\n  end\nexport main 0\n")
	s := begun(memory)
	s.Pages[0][16], s.Pages[0][17] = 7, 255
	comes(t, memory, nil, s, 3, "suspended used 3 frame 0 at 3 locals stack pages 1 6")
	comes(t, memory, nil, s, 12, "halted used 6 results 1 pages 2 6")
	ask := parsed(t, "flagon\ntype w -> w\nextern 0\nmemory 0 0\nfunc 0 -\n  get 0\n  host 0\n  host 0\n  end\nexport ask 0\n")
	comes(t, ask, []api.Reply{{Results: numbers("5")}, {Trap: true}}, begun(ask, 1), 9, "trapped used 3 trap 6 replies 2")
	comes(t, ask, []api.Reply{{Results: numbers("5")}, {Results: numbers("6")}}, begun(ask, 1), 9, "halted used 4 results 6 replies 2")
}

// plainRows: plain instructions, the values that they take off, the lowest first, and those that they put on, or a trap.
const plainRows = `
nop =
w.const:5 = 5
w.const:-1 = 4294967295
w.const:-2147483648 = 2147483648
w.const:2147483647 = 2147483647
l.const:5 = 5
l.const:-1 = 18446744073709551615
l.const:-9223372036854775808 = 9223372036854775808
w.load8u:1 1 = 130
w.load8s:1 1 = 4294967170
w.load8s 0 = 1
w.load16u 2 = 33666
w.load16s 2 = 4294935426
w.load16s 4 = 1668
w.load:2 0 = 109347714
l.load 0 = 578438243352216065
w.store8 0 511 =
w.store16 0 65537 =
w.store 0 4294967295 =
l.store 0 18446744073709551615 =
size = 1
grow 1 = 1
grow 0 = 1
grow 2 = 4294967295
w.load8u 4096 trap 2
w.store8 4096 1 trap 2
w.eqz 0 = 1
w.eqz 5 = 0
w.eq 5 5 = 1
w.eq 5 6 = 0
w.ne 5 5 = 0
w.ne 5 6 = 1
w.lts 4294967295 0 = 1
w.lts 0 4294967295 = 0
w.ltu 4294967295 0 = 0
w.ltu 0 4294967295 = 1
w.les 3 3 = 1
w.les 2147483648 2147483647 = 1
w.leu 3 3 = 1
w.leu 2147483648 2147483647 = 0
w.clz 1 = 31
w.ctz 8 = 3
w.pop 255 = 8
w.add 4294967295 2 = 1
w.sub 3 5 = 4294967294
w.mul 65536 65537 = 65536
w.divs 4294967289 2 = 4294967293
w.divs 7 0 trap 3
w.divs 2147483648 4294967295 trap 4
w.divu 4294967289 2 = 2147483644
w.divu 7 0 trap 3
w.divu 2147483648 4294967295 = 0
w.rems 4294967289 2 = 4294967295
w.rems 7 0 trap 3
w.rems 2147483648 4294967295 = 0
w.remu 4294967289 2 = 1
w.remu 7 0 trap 3
w.and 12 10 = 8
w.or 12 10 = 14
w.xor 12 10 = 6
w.shl 1 33 = 2
w.shrs 2147483648 31 = 4294967295
w.shru 2147483648 31 = 1
w.rotl 2147483648 1 = 1
w.rotr 1 1 = 2147483648
l.eqz 0 = 1
l.eqz 4294967296 = 0
l.eq 9 9 = 1
l.eq 4294967296 0 = 0
l.ne 9 9 = 0
l.ne 4294967296 0 = 1
l.lts 18446744073709551615 0 = 1
l.ltu 18446744073709551615 0 = 0
l.les 9223372036854775808 9223372036854775807 = 1
l.leu 9223372036854775808 9223372036854775807 = 0
l.clz 1 = 63
l.ctz 4294967296 = 32
l.pop 18446744073709551615 = 64
l.add 18446744073709551615 2 = 1
l.sub 0 1 = 18446744073709551615
l.mul 4294967296 4294967297 = 4294967296
l.divs 18446744073709551609 2 = 18446744073709551613
l.divs 7 0 trap 3
l.divs 9223372036854775808 18446744073709551615 trap 4
l.divu 18446744073709551609 2 = 9223372036854775804
l.divu 7 0 trap 3
l.rems 18446744073709551609 2 = 18446744073709551615
l.rems 7 0 trap 3
l.rems 9223372036854775808 18446744073709551615 = 0
l.remu 18446744073709551609 2 = 1
l.remu 7 0 trap 3
l.and 12 10 = 8
l.or 12 10 = 14
l.xor 12 10 = 6
l.shl 1 65 = 2
l.shrs 9223372036854775808 63 = 18446744073709551615
l.shru 9223372036854775808 63 = 1
l.rotl 9223372036854775808 1 = 1
l.rotr 1 1 = 9223372036854775808
w.wrap 4294967301 = 5
l.extends 2147483648 = 18446744071562067968
l.extendu 2147483648 = 2147483648
w.ext8 128 = 4294967168
w.ext16 32768 = 4294934528
l.ext32 2147483648 = 18446744071562067968
`

// plainRow makes one step of a plain instruction that stands above other values.
func plainRow(t *testing.T, row string) byte {
	t.Helper()
	ahead, want, goes := strings.Cut(row, " =")
	if !goes {
		ahead, want, _ = strings.Cut(row, " trap ")
	}
	piece, values, _ := strings.Cut(ahead, " ")
	word, _, _ := strings.Cut(piece, ":")
	x := plain[word]
	m := paged(1, 2, ">lw"+x.pushes, "", consts("lw"+x.pops)+piece+" end")
	pc := 2 + len(x.pops)
	s := standing(m, pc, append(numbers("77 78"), numbers(values)...)...)
	for at := range 9 {
		s.Pages[0][at] = []byte{1, 130, 130, 131, 132, 6, 7, 8, 9}[at]
	}
	got := walk(t, m, nil, s, 1)
	if !goes {
		if got.End != trapped || got.Trap != int8(numbers(want)[0]) || got.Used != 1 || len(got.Frames) != 0 || len(got.Results) != 0 {
			t.Errorf("%s: %s", row, show(got))
		}
		return m.Functions[0].Code[pc].Op
	}
	f := got.Frames[0]
	if f.Pc != pc+1 || !slices.Equal(f.Stack, append(numbers("77 78"), numbers(want)...)) || got.Used != 1 || len(f.Locals) != 0 {
		t.Errorf("%s: %s", row, show(got))
	}
	return m.Functions[0].Code[pc].Op
}

// flowRow: an instruction that is not plain, at a pc of a function, with a stack; where one step comes to.
type flowRow struct {
	word, sig, code string
	pc              int
	stack, want     string
}

func flowRows() []flowRow {
	return []flowRow{
		{"trap", ">", "trap end", 0, "", "trapped used 1 trap 1"},
		{"block", ">", "w.const block:w> drop end end", 1, "9", "at 2 stack 9"},
		{"loop", ">", "w.const loop:w> drop end end", 1, "9", "at 2 stack 9"},
		{"if", ">", "w.const if:> nop end end", 1, "9", "at 2 stack"},
		{"if", ">", "w.const if:> nop end end", 1, "4294967295", "at 2 stack"},
		{"if", ">", "w.const if:> nop end end", 1, "0", "at 3 stack"},
		{"if", ">", "w.const w.const if:w> drop nop else drop end end", 2, "8 9", "at 3 stack 8"},
		{"if", ">", "w.const w.const if:w> drop nop else drop end end", 2, "8 0", "at 6 stack 8"},
		{"else", ">", "w.const if:> nop else nop nop end end", 3, "", "at 6 stack"},
		{"end", ">", "block:> end end", 1, "", "at 2 stack"},
		{"end", ">lw", "l.const w.const end", 2, "8 9", "halted used 1 results 8 9"},
		{"br", ">l", "block:>l l.const w.const l.const br:0 end end", 4, "7 8 9", "at 6 stack 9"},
		{"br", ">", "block:> br:1 end end", 1, "", "halted used 1 results"},
		{"brif", ">l", "block:>l l.const l.const w.const brif:0 drop end end", 4, "7 8 9", "at 7 stack 8"},
		{"brif", ">l", "block:>l l.const l.const w.const brif:0 drop end end", 4, "7 8 0", "at 5 stack 7 8"},
		{"brtable", ">", "block:> block:> w.const brtable:0,1 end nop end end", 3, "0", "at 5 stack"},
		{"brtable", ">", "block:> block:> w.const brtable:0,1 end nop end end", 3, "1", "at 7 stack"},
		{"return", ">l", "w.const block:> l.const l.const return end drop l.const end", 4, "7 8 9", "halted used 1 results 9"},
		{"call", ">", "l.const l.const w.const call:1 drop drop end", 3, "7 8 9", "at 3 stack 7 frame 1 at 0 locals 8 9 0 0 stack"},
		{"host", ">", "l.const l.const w.const host:0 drop drop drop end", 3, "7 8 9", "at 4 stack 7 5 6 replies 1"},
		{"drop", ">l", "l.const w.const drop end", 2, "8 9", "at 3 stack 8"},
		{"select", ">lw", "l.const w.const w.const w.const select end", 4, "6 7 8 1", "at 5 stack 6 7"},
		{"select", ">lw", "l.const w.const w.const w.const select end", 4, "6 7 8 4294967295", "at 5 stack 6 7"},
		{"select", ">lw", "l.const w.const w.const w.const select end", 4, "6 7 8 0", "at 5 stack 6 8"},
		{"select", ">l", "l.const l.const w.const select end", 3, "18446744073709551615 3 0", "at 4 stack 3"},
		{"select", ">l", "l.const l.const w.const select end", 3, "18446744073709551615 3 2", "at 4 stack 18446744073709551615"},
	}
}

// TestEveryOpcode: one step of each instruction: which values are taken off and put on, and where it goes on.
func TestEveryOpcode(t *testing.T) {
	met := map[byte]int{}
	for row := range strings.SplitSeq(strings.TrimSpace(plainRows), "\n") {
		met[plainRow(t, row)]++
	}
	for _, x := range flowRows() {
		m := of(x.sig, "", x.code)
		m.Hosts = []int{kind(&m, "lw>ww")}
		put(&m, "lw>w", "lw", "w.const end")
		op := m.Functions[0].Code[x.pc].Op
		if wordOf[op] != x.word {
			t.Fatalf("%s: %s at %d", x.code, wordOf[op], x.pc)
		}
		met[op]++
		want := x.want
		if strings.HasPrefix(want, "at ") {
			at, stack, _ := strings.Cut(want, " stack")
			want = "suspended used 1 frame 0 " + at + " locals stack" + stack
		}
		comes(t, m, []api.Reply{{Results: numbers("5 6")}}, standing(m, x.pc, numbers(x.stack)...), 1, want)
	}
	for _, x := range []struct{ piece, want string }{
		{"get:0", "at 3 locals 5 6 7 stack 3 9 5 globals 1 2"},
		{"get:2", "at 3 locals 5 6 7 stack 3 9 7 globals 1 2"},
		{"set:0", "at 3 locals 9 6 7 stack 3 globals 1 2"},
		{"set:2", "at 3 locals 5 6 9 stack 3 globals 1 2"},
		{"tee:0", "at 3 locals 9 6 7 stack 3 9 globals 1 2"},
		{"tee:2", "at 3 locals 5 6 9 stack 3 9 globals 1 2"},
		{"gget:0", "at 3 locals 5 6 7 stack 3 9 1 globals 1 2"},
		{"gget:1", "at 3 locals 5 6 7 stack 3 9 2 globals 1 2"},
		{"gset:1", "at 3 locals 5 6 7 stack 3 globals 1 9"},
	} {
		var m api.Module
		m.Globals = []api.Global{{Letter: 'w', Value: 1}, {Letter: 'w', Mutable: true, Value: 2}}
		put(&m, "w>", "lw", "l.const w.const "+x.piece+" trap end")
		s := begun(m, 5, 6, 7)
		s.Frames[0].Pc, s.Frames[0].Stack = 2, numbers("3 9")
		met[m.Functions[0].Code[2].Op]++
		comes(t, m, nil, s, 1, "suspended used 1 frame 0 "+x.want)
	}
	if missing := slices.DeleteFunc(slices.Sorted(maps.Keys(wordOf)), func(op byte) bool { return met[op] > 0 }); len(missing) > 0 || len(wordOf) != 90 {
		t.Errorf("%d instructions, without a row: %x", len(wordOf), missing)
	}
}

// edges are numbers at the ends of both letters' ranges.
func edges() []uint64 {
	return []uint64{0, 1, 2, 7, 31, 32, 33, 63, 64, 1<<31 - 1, 1 << 31, 1<<31 + 1, high - 2, high - 1, high, high + 1, math.MaxInt64, 1 << 63, 1<<63 + 1, math.MaxUint64 - 1, math.MaxUint64}
}

// TestNumbers: each instruction of numbers is nums.Do of the operand below and the top, its trap the run's.
func TestNumbers(t *testing.T) {
	r := rand.New(rand.NewSource(161))
	for _, op := range slices.Sorted(maps.Keys(wordOf)) {
		if !nums.Of(op) {
			continue
		}
		word := wordOf[op]
		x := plain[word]
		m := of(">"+x.pushes, "", consts(x.pops)+word+" end")
		traps := map[int8]int{}
		for range 150 {
			stack := make([]uint64, len(x.pops))
			for at := range stack {
				stack[at] = edges()[r.Intn(len(edges()))]
				if x.pops[at] == 'w' {
					stack[at] %= high
				}
			}
			both := append(slices.Clone(stack), 0)
			v, trap := nums.Do(op, both[0], both[1])
			traps[trap]++
			want := fmt.Sprint("suspended used 1 frame 0 at ", len(stack)+1, " locals stack ", v)
			if trap != 0 {
				want = fmt.Sprint("trapped used 1 trap ", trap)
			}
			if s, e := step.Step(m, nil, standing(m, len(stack), stack...)); e != api.OK || show(s) != want {
				t.Fatalf("%s of %d: %d, %s, not %s", word, stack, e, show(s), want)
			}
		}
		if strings.Contains(word, "div") && traps[trapZero] == 0 {
			t.Errorf("%s: no division by nought is drawn", word)
		}
	}
}

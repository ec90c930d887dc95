package step_test

import (
	"fmt"
	"math"
	"strings"
	"testing"

	"flagon/api"
	"flagon/step"
)

// TestIf: with and without an else, both ways, with parameters and results.
func TestIf(t *testing.T) {
	bare := of("w>", "", "get:0 if:> nop nop end end")
	other := of("w>w", "", "get:0 if:>w w.const:5 else w.const:6 nop end end")
	through := of("w>lw", "", "l.const:1 w.const:2 get:0 if:w>w w.const:3 w.add end end")
	turn := of("w>wlw", "l", "w.const:1 w.const:2 l.const:3 get:0 if:wl>lw set:1 drop get:1 w.const:5 else drop drop l.const:6 w.const:7 end end")
	for _, v := range []uint64{1, 2, 1 << 31, high - 1} {
		runs(t, bare, "halted used 6 results", v)
		runs(t, other, "halted used 6 results 5", v)
		runs(t, through, "halted used 8 results 1 5", v)
		runs(t, turn, "halted used 12 results 1 3 5", v)
		comes(t, bare, nil, begun(bare, v), 2, fmt.Sprint("suspended used 2 frame 0 at 2 locals ", v, " stack"))
		comes(t, other, nil, begun(other, v), 4, fmt.Sprint("suspended used 4 frame 0 at 6 locals ", v, " stack 5"))
	}
	runs(t, bare, "halted used 4 results", 0)
	runs(t, other, "halted used 6 results 6", 0)
	runs(t, through, "halted used 6 results 1 2", 0)
	runs(t, turn, "halted used 11 results 1 6 7", 0)
	comes(t, bare, nil, begun(bare, 0), 2, "suspended used 2 frame 0 at 4 locals 0 stack")
	comes(t, other, nil, begun(other, 0), 2, "suspended used 2 frame 0 at 4 locals 0 stack")
}

// TestIfs: one within the other, in both halves.
func TestIfs(t *testing.T) {
	m := of("w>w", "", "get:0 if:>w get:0 w.const:1 w.eq if:>w w.const:10 else w.const:11 end else get:0 if:> end w.const:12 end end")
	runs(t, m, "halted used 12 results 10", 1)
	runs(t, m, "halted used 11 results 11", 2)
	runs(t, m, "halted used 8 results 12", 0)
}

// branching is a function of a w, and what comes of it.
type branching struct {
	sig, locals, code string
	arg               uint64
	want              string
}

func hold(t *testing.T, list ...branching) {
	t.Helper()
	for _, x := range list {
		runs(t, of(x.sig, x.locals, x.code), x.want, x.arg)
	}
}

// TestOutOfBlocks: as many values as the block's type has results are kept, the rest above its floor is dropped; on behind its end.
func TestOutOfBlocks(t *testing.T) {
	hold(t,
		branching{"w>lw", "", "l.const:1 block:>w l.const:2 w.const:3 w.const:4 br:0 end end", 0, "halted used 7 results 1 4"},
		branching{"w>www", "", "w.const:9 w.const:8 block:w>ww w.const:7 w.const:6 br:0 end end", 0, "halted used 7 results 9 7 6"},
		branching{"w>ww", "", "w.const:9 w.const:8 block:w>w br:0 end end", 0, "halted used 5 results 9 8"},
		branching{"w>w", "", "w.const:9 w.const:8 block:w> w.const:1 w.const:2 br:0 end end", 0, "halted used 7 results 9"},
		branching{"w>w", "", "w.const:9 block:> br:0 end nop end", 0, "halted used 5 results 9"},
		branching{"w>l", "", "block:>l block:>w block:>ww w.const:1 w.const:2 l.const:3 br:2 end drop end drop l.const:4 end end", 0, "halted used 8 results 3"},
		branching{"w>l", "", "block:>l block:>w block:>ww w.const:1 w.const:2 br:1 end drop end drop l.const:4 end end", 0, "halted used 10 results 4"},
		branching{"w>ll", "l", "block:>ll l.const:5 l.const:6 l.const:7 get:0 brif:0 set:1 drop get:1 end end", 1, "halted used 7 results 6 7"},
		branching{"w>ll", "l", "block:>ll l.const:5 l.const:6 l.const:7 get:0 brif:0 set:1 drop get:1 end end", 0, "halted used 11 results 5 7"},
		branching{"w>w", "", "block:>w w.const:3 block:> get:0 brif:0 nop end end end", high - 1, "halted used 7 results 3"},
	)
}

// TestOutOfIfs: out of both halves; the floor lies below the parameters, which lie below the w that was asked.
func TestOutOfIfs(t *testing.T) {
	one := "w.const:9 w.const:8 get:0 if:w>ww w.const:7 w.const:6 br:0 else w.const:5 end end"
	two := "w.const:9 w.const:8 get:0 if:w>ww w.const:7 else w.const:5 w.const:4 br:0 end end"
	both := "block:>l get:0 if:>w l.const:1 w.const:2 l.const:3 br:1 else w.const:4 w.const:5 br:0 end drop l.const:6 end end"
	hold(t,
		branching{"w>www", "", one, 1, "halted used 8 results 9 7 6"},
		branching{"w>www", "", one, 0, "halted used 7 results 9 8 5"},
		branching{"w>www", "", two, 1, "halted used 8 results 9 8 7"},
		branching{"w>www", "", two, 0, "halted used 8 results 9 5 4"},
		branching{"w>l", "", both, 1, "halted used 8 results 3"},
		branching{"w>l", "", both, 0, "halted used 10 results 6"},
		branching{"w>", "", "get:0 if:> br:0 end end", 1, "halted used 4 results"},
		branching{"w>", "", "get:0 if:> get:0 brif:0 nop end nop end", 1, "halted used 6 results"},
	)
}

// TestRound: back into loops: as many values as the loop's type has parameters are kept; on behind the loop instruction.
func TestRound(t *testing.T) {
	hold(t,
		branching{"w>ww", "w", "w.const:9 get:0 loop:w>w w.const:1 w.sub tee:1 get:1 brif:0 end end", 3, "halted used 20 results 9 0"},
		branching{"w>ww", "w", "w.const:9 get:0 loop:w>w w.const:1 w.sub tee:1 l.const:5 get:1 get:1 brif:0 drop drop end end", 3, "halted used 28 results 9 0"},
		branching{"w>", "", "loop:> block:> get:0 w.const:1 w.sub tee:0 brif:1 br:0 end end end", 2, "halted used 16 results"},
		branching{"w>w", "", "block:>w loop:> w.const:5 br:1 end w.const:1 end end", 0, "halted used 5 results 5"},
		branching{"w>w", "", "loop:>w get:0 if:>w get:0 w.const:1 w.sub set:0 l.const:7 br:1 else w.const:4 end end end", 2, "halted used 23 results 4"},
	)
	m := of("w>w", "ww", "w.const:9 get:0 loop:w>w set:1 l.const:1 w.const:2 br:0 end drop end")
	comes(t, m, nil, begun(m, 6), 3, "suspended used 3 frame 0 at 3 locals 6 0 0 stack 9 6")
	comes(t, m, nil, begun(m, 6), 6, "suspended used 6 frame 0 at 6 locals 6 6 0 stack 9 1 2")
	comes(t, m, nil, begun(m, 6), 7, "suspended used 7 frame 0 at 3 locals 6 6 0 stack 9 2")
	comes(t, m, nil, begun(m, 6), 8, "suspended used 8 frame 0 at 4 locals 6 2 0 stack 9")
}

// TestOutOfAll: a label beyond all openers is as a return.
func TestOutOfAll(t *testing.T) {
	hold(t,
		branching{"w>l", "", "l.const:8 br:0 end", 0, "halted used 2 results 8"},
		branching{"w>l", "", "l.const:7 l.const:8 br:0 end", 0, "halted used 3 results 8"},
		branching{"w>l", "", "w.const:7 l.const:8 block:> l.const:9 br:1 end drop drop l.const:1 end", 0, "halted used 5 results 9"},
		branching{"w>l", "", "l.const:8 get:0 brif:0 drop l.const:9 end", 1, "halted used 3 results 8"},
		branching{"w>l", "", "l.const:8 get:0 brif:0 drop l.const:9 end", 0, "halted used 6 results 9"},
		branching{"w>l", "", "l.const:7 l.const:8 get:0 brtable:0 end", 5, "halted used 4 results 8"},
		branching{"w>l", "", "loop:>l block:> get:0 if:> l.const:6 br:3 end end l.const:5 end end", 1, "halted used 6 results 6"},
		branching{"w>", "", "loop:> br:1 end end", 0, "halted used 2 results"},
	)
	hold(t,
		branching{"w>", "", "block:>*32 br:32 end*33", 0, "halted used 33 results"},
		branching{"w>w", "", "block:>*31 loop:> get:0 w.const:1 w.sub tee:0 brif:0 end*32 get:0 end", 2, "halted used 76 results 0"},
	)
}

// TestTable: each place of a brtable, the last one, those above it, and numbers whose highest bit is set.
func TestTable(t *testing.T) {
	three := of("w>w", "", "block:> block:> block:> get:0 brtable:2,1,0 end w.const:10 return end w.const:11 return end w.const:12 end")
	runs(t, three, "halted used 7 results 12", 0)
	runs(t, three, "halted used 7 results 11", 1)
	for _, i := range []uint64{2, 3, 4, 16, 255, 256, 65536, math.MaxInt32, 1 << 31, 1<<31 + 1, high - 1} {
		runs(t, three, "halted used 7 results 10", i)
	}
	other := of("w>w", "", "block:> block:> get:0 brtable:0,0,1 end w.const:10 return end w.const:11 end")
	for i, want := range []int{10, 10, 11, 11} {
		runs(t, other, fmt.Sprint("halted used 6 results ", want), uint64(i))
	}
	runs(t, other, "halted used 6 results 11", high-1)
	alone := of("w>w", "", "block:> get:0 brtable:0 end w.const:10 end")
	for _, i := range []uint64{0, 1, 1 << 31, high - 1} {
		runs(t, alone, "halted used 5 results 10", i)
	}
	kept := of("w>w", "", "block:>w block:>w l.const:1 w.const:5 get:0 brtable:0,1 end drop w.const:6 end end")
	runs(t, kept, "halted used 10 results 6", 0)
	for _, i := range []uint64{1, 2, high - 1} {
		runs(t, kept, "halted used 7 results 5", i)
	}
	sixteen := of("w>", "", "block:> block:> get:0 brtable:0,0,0,0,0,0,0,0,0,0,0,0,0,0,0,1 end trap end end")
	for _, i := range []uint64{0, 1, 7, 14} {
		runs(t, sixteen, "trapped used 5 trap 1", i)
	}
	for _, i := range []uint64{15, 16, 17, high - 1} {
		runs(t, sixteen, "halted used 5 results", i)
	}
	loop := of("w>w", "", "w.const:2 w.const:0 loop:w>w w.const:1 get:0 w.const:0 set:0 brtable:1,0 end drop end")
	comes(t, loop, nil, begun(loop, 1), 8, "suspended used 8 frame 0 at 3 locals 0 stack 2 1")
	runs(t, loop, "halted used 13 results 1", 1)
	runs(t, loop, "halted used 8 results 1", 0)
}

// TestReturn: out of the first frame, and out of another one, with values below the results, in openers and outside.
func TestReturn(t *testing.T) {
	hold(t,
		branching{"w>", "", "l.const:1 return end", 0, "halted used 2 results"},
		branching{"w>wl", "", "l.const:1 w.const:2 l.const:3 return end", 0, "halted used 4 results 2 3"},
		branching{"w>w", "", "l.const:1 loop:> block:> w.const:4 w.const:5 return end end drop w.const:6 end", 0, "halted used 6 results 5"},
	)
	for _, callee := range []string{
		"w.const:1 l.const:2 get:1 get:0 return end",
		"w.const:1 l.const:2 get:1 get:0 br:0 end",
		"w.const:1 l.const:2 get:1 get:0 w.const:1 brif:0 drop drop drop drop trap end",
		"w.const:1 l.const:2 get:1 get:0 w.const:0 brtable:0 end",
		"w.const:1 l.const:2 block:> get:1 get:0 br:1 end trap end",
		"get:1 get:0 end",
	} {
		m := of("w>llww", "l", "l.const:3 get:0 l.const:4 call:1 w.const:5 end")
		put(&m, "wl>lw", "", callee)
		s := comes(t, m, nil, begun(m, 7), 4, "suspended used 4 frame 0 at 3 locals 7 0 stack 3 frame 1 at 0 locals 7 4 stack")
		for len(s.Frames) == 2 {
			s = walk(t, m, nil, s, 1)
		}
		s.Used = 0
		if want := "suspended used 0 frame 0 at 4 locals 7 0 stack 3 4 7"; show(s) != want {
			t.Errorf("%s: %s, not %s", callee, show(s), want)
		}
		comes(t, m, nil, s, 2, "halted used 2 results 3 4 7 5")
	}
}

// nest is a state with so many frames of a function that calls itself, the last one at that pc.
func nest(count, pc int) api.State {
	s := api.State{End: suspended}
	for k := range count {
		s.Frames = append(s.Frames, api.Frame{Pc: 2, Locals: []uint64{uint64(k), 5}, Stack: []uint64{9}})
	}
	f := &s.Frames[count-1]
	f.Pc, f.Stack = pc, f.Stack[:min(pc, 1)]
	return s
}

// TestFrames: a call at MaxFrames frames traps, one below it does not.
func TestFrames(t *testing.T) {
	m := of("w>l", "w", "l.const:9 get:0 call:0 drop end")
	for _, count := range []int{1, 2, 62, 63, 64} {
		s := nest(count, 2)
		s.Frames[count-1].Stack = []uint64{9, 4}
		got, e := step.Step(m, nil, s)
		if e != api.OK {
			t.Fatalf("P16.1: %d of %d frames", e, count)
		}
		if count == 64 {
			if show(got) != "trapped used 1 trap 5" {
				t.Errorf("a call at 64 frames: %s", show(got))
			}
			continue
		}
		if len(got.Frames) != count+1 || !sameFrame(got.Frames[count], api.Frame{Locals: []uint64{4, 0}}) || !sameFrame(got.Frames[count-1], api.Frame{Pc: 2, Locals: []uint64{uint64(count - 1), 5}, Stack: []uint64{9}}) {
			t.Errorf("a call at %d frames: %s", count, show(got))
		}
		keeps(t, m, s, got)
	}
	full := walk(t, m, nil, nest(64, 0), 2)
	if len(full.Frames) != 64 || full.Used != 2 {
		t.Errorf("64 frames: %s", show(full))
	}
	back := walk(t, m, nil, nest(64, 4), 1)
	if len(back.Frames) != 63 || !sameFrame(back.Frames[62], api.Frame{Pc: 3, Locals: []uint64{62, 5}, Stack: []uint64{9, 9}}) {
		t.Errorf("a return at 64 frames: %s", show(back))
	}
	runs(t, m, "trapped used 192 trap 5", 1)
	endless := of(">", "", "call:0 end")
	runs(t, endless, "trapped used 64 trap 5")
	two := of(">", "", "call:1 end")
	put(&two, ">", "", "nop call:0 end")
	runs(t, two, "trapped used 96 trap 5")
}

// TestCalls: parameters in their order, noughts behind them, an empty stack; results in their order, on what was left.
func TestCalls(t *testing.T) {
	m := of("w>wllwl", "", "get:0 l.const:-1 w.const:-1 l.const:5 call:1 end")
	put(&m, "wl>lwl", "lw", "w.const:3 drop get:2 get:3 set:0 get:0 get:1 end")
	comes(t, m, nil, begun(m, 7), 5, "suspended used 5 frame 0 at 4 locals 7 stack 7 18446744073709551615 frame 1 at 0 locals 4294967295 5 0 0 stack")
	comes(t, m, nil, begun(m, 7), 6, "suspended used 6 frame 0 at 4 locals 7 stack 7 18446744073709551615 frame 1 at 1 locals 4294967295 5 0 0 stack 3")
	comes(t, m, nil, begun(m, 7), 9, "suspended used 9 frame 0 at 4 locals 7 stack 7 18446744073709551615 frame 1 at 4 locals 4294967295 5 0 0 stack 0 0")
	comes(t, m, nil, begun(m, 7), 12, "suspended used 12 frame 0 at 4 locals 7 stack 7 18446744073709551615 frame 1 at 7 locals 0 5 0 0 stack 0 0 5")
	comes(t, m, nil, begun(m, 7), 13, "suspended used 13 frame 0 at 5 locals 7 stack 7 18446744073709551615 0 0 5")
	runs(t, m, "halted used 14 results 7 18446744073709551615 0 0 5", 7)
	eight := of(">lwlwlwlw", "", "l.const:1 w.const:2 l.const:3 w.const:4 l.const:5 w.const:6 l.const:7 w.const:8 call:1 end")
	put(&eight, "lwlwlwlw>lwlwlwlw", "", "get:6 get:7 get:4 get:5 get:2 get:3 get:0 get:1 end")
	runs(t, eight, "halted used 19 results 7 8 5 6 3 4 1 2")
	many := of("w>", "", "get:0 call:1 end")
	put(&many, "w>", strings.Repeat("wl", 31)+"w", "nop end")
	if s := walk(t, many, nil, begun(many, 3), 2); len(s.Frames) != 2 || len(s.Frames[1].Locals) != 64 || s.Frames[1].Locals[0] != 3 {
		t.Errorf("64 locals: %s", show(s))
	}
}

// TestFibonacci: a run of many calls comes to what it should.
func TestFibonacci(t *testing.T) {
	m := of("w>l", "", "get:0 w.const:2 w.ltu if:>l get:0 l.extendu else get:0 w.const:1 w.sub call:0 get:0 w.const:2 w.sub call:0 l.add end end")
	if s, e := step.Steps(m, nil, begun(m, 20), math.MaxInt); e != api.OK || s.End != halted || len(s.Results) != 1 || s.Results[0] != 6765 {
		t.Errorf("%d, %s", e, show(s))
	}
	runs(t, m, "halted used 177 results 5", 5)
}

// TestHighest: a stack of MaxStack values, on which all is as below.
func TestHighest(t *testing.T) {
	m := of("w>w", strings.Repeat("w", 63), "w.const:3*255 get:0 tee:63 drop*255 end")
	s := comes(t, m, nil, begun(m, 7), 257+255, "suspended used 512 frame 0 at 512 locals 7 "+strings.Repeat("0 ", 62)+"7 stack 3")
	comes(t, m, nil, s, 1, "halted used 513 results 3")
	out := of("w>w", "", "w.const:3 block:> w.const:4*254 get:0 br:1 end end")
	runs(t, out, "halted used 258 results 7", 7)
	off := of("w>w", "", "w.const:3 block:> w.const:4*254 get:0 br:0 end end")
	runs(t, off, "halted used 259 results 3", 7)
}

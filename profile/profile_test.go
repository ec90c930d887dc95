package profile_test

import (
	"fmt"
	"math"
	"slices"
	"strings"
	"testing"

	"flagon/api"
	"flagon/profile"
	"flagon/text"
)

// TestExamples: the chapter's.
func TestExamples(t *testing.T) {
	m := of(">w", "", "w.const:5 end")
	five := small{m, nil, begun(m), 2}
	tells(t, five, 9, told{"1 1", "0 0 1 2", "end 1, w.const 1", "halted used 2 results 5"})
	tells(t, five, 1, told{"1 0", "0 0 1 1", "w.const 1", "suspended used 1 frame 0 at 1 locals stack 5"})
	counts, _, _ := profile.Counts(m, nil, begun(m), 9)
	if lines, e := profile.Lines(m, counts); e != api.OK || !slices.Equal(lines, []profile.Line{{Function: 0, Start: 0, Entered: 1, Fuel: 2}}) {
		t.Errorf("P27.2: %v, %d", lines, e)
	}
	want := make([]int64, 256)
	want[0x18], want[0x06] = 1, 1
	if ops, e := profile.Ops(m, counts); e != api.OK || !slices.Equal(ops, want) {
		t.Errorf("P27.3: %v, %d", ops, e)
	}
}

// TestFuel: the instruction at which the fuel ends is not executed; one at which the run ends is. No fuel is too much.
func TestFuel(t *testing.T) {
	m := of(">w", "", "nop nop w.const:7 end")
	x := small{m, nil, begun(m), 4}
	tells(t, x, 0, told{"0 0 0 0", "", "", "suspended used 0 frame 0 at 0 locals stack"})
	tells(t, x, 1, told{"1 0 0 0", "0 0 1 1", "nop 1", "suspended used 1 frame 0 at 1 locals stack"})
	tells(t, x, 2, told{"1 1 0 0", "0 0 1 2", "nop 2", "suspended used 2 frame 0 at 2 locals stack"})
	tells(t, x, 3, told{"1 1 1 0", "0 0 1 3", "nop 2, w.const 1", "suspended used 3 frame 0 at 3 locals stack 7"})
	for _, fuel := range []int64{4, 5, 1 << 31, 1 << 32, 1<<32 + 1, mostUsed, mostUsed + 1, math.MaxInt64} {
		tells(t, x, fuel, told{"1 1 1 1", "0 0 1 4", "nop 2, end 1, w.const 1", "halted used 4 results 7"})
	}
}

// TestNever: of a function that is never entered there is a list, and of instructions that are never executed there are numbers; but no line of a segment that has none.
func TestNever(t *testing.T) {
	m := of(">", "", "nop end")
	put(&m, "w>", "", "get:0 drop end")
	put(&m, ">", "", "call:0 end")
	x := small{m, nil, begun(m), 2}
	tells(t, x, 9, told{"1 1 | 0 0 0 | 0 0", "0 0 1 2", "nop 1, end 1", "halted used 2 results"})
	x.s.Frames[0].Function = 2
	tells(t, x, 9, told{"1 1 | 0 0 0 | 1 1", "0 0 1 2, 2 0 1 1, 2 1 1 1", "nop 1, end 2, call 1", "halted used 4 results"})
	x.s.Frames[0].Function, x.s.Frames[0].Locals = 1, numbers("7")
	tells(t, x, 9, told{"0 0 | 1 1 1 | 0 0", "1 0 1 3", "end 1, drop 1, get 1", "halted used 3 results"})
	dead := of(">", "", "return end")
	tells(t, small{dead, nil, begun(dead), 1}, 9, told{"1 0", "0 0 1 1", "return 1", "halted used 1 results"})
	turn := of("w>", "", "get:0 if:> nop nop else nop end end")
	tells(t, small{turn, nil, begun(turn, 1), 6}, 9, told{"1 1 1 1 1 0 1 1", "0 0 1 2, 0 2 1 3, 0 6 1 1, 0 7 1 1", "nop 2, if 1, else 1, end 2, get 1", "halted used 7 results"})
	tells(t, small{turn, nil, begun(turn, 0), 5}, 9, told{"1 1 0 0 0 1 1 1", "0 0 1 2, 0 5 1 1, 0 6 1 1, 0 7 1 1", "nop 1, if 1, end 2, get 1", "halted used 5 results"})
}

// TestLoops: what is gone through again and again is counted each time.
func TestLoops(t *testing.T) {
	m := of("w>w", "", "loop:> get:0 w.const:1 w.sub tee:0 brif:0 end w.const:7 end")
	x := small{m, nil, begun(m, 3), 19}
	tells(t, x, 99, told{"1 3 3 3 3 3 1 1 1", "0 0 1 1, 0 1 3 15, 0 6 1 1, 0 7 1 2", "loop 1, end 2, brif 3, get 3, tee 3, w.const 4, w.sub 3", "halted used 19 results 7"})
	tells(t, x, 8, told{"1 2 2 1 1 1 0 0 0", "0 0 1 1, 0 1 2 7", "loop 1, brif 1, get 2, tee 1, w.const 2, w.sub 1", "suspended used 8 frame 0 at 3 locals 2 stack 2 1"})
	long := of("w>w", "", "loop:> nop*20 get:0 w.const:1 w.sub tee:0 brif:0 end w.const:7 end") // the round has a segment of sixteen and one of nine
	y := small{long, nil, begun(long, 4), 104}
	tells(t, y, 200, told{"1" + strings.Repeat(" 4", 25) + " 1 1 1", "0 0 1 1, 0 1 4 64, 0 17 4 36, 0 26 1 1, 0 27 1 2", "nop 80, loop 1, end 2, brif 4, get 4, tee 4, w.const 5, w.sub 4", "halted used 104 results 7"})
	for n := range uint64(1000) {
		z := small{m, nil, begun(m, n+1), 0}
		r := n + 1
		all := fmt.Sprint("1 ", r, " ", r, " ", r, " ", r, " ", r, " 1 1 1")
		if counts, _ := counted(t, z, math.MaxInt64); saidCounts(counts) != all {
			t.Fatalf("P27.1: %d rounds: %s", r, saidCounts(counts))
		}
	}
}

// TestRound: what goes round for ever is counted as long as the fuel goes.
func TestRound(t *testing.T) {
	m, s := counting()
	x := small{m, nil, s, 0}
	for _, fuel := range []int64{0, 1, 2, 5, 6, 7, 99, 65535, 65536, 65537, 1000001, 5000000} {
		counts, end := counted(t, x, fuel)
		want := [][]int64{make([]int64, 8)}
		want[0][0] = min(fuel, 1)
		for at := range int64(5) { // the rounds that come so far
			want[0][1+at] = (max(fuel-1, 0) + 4 - at) / 5
		}
		if !sameCounts(counts, want) || end.Used != fuel {
			t.Errorf("P27.1: fuel %d: %s, not %s; %s", fuel, saidCounts(counts), saidCounts(want), show(end))
		}
		holds(t, m, counts)
	}
}

// TestCalls: what is called is counted where it stands, and what it is called by, too; a call cuts a segment.
func TestCalls(t *testing.T) {
	m := of("w>", "", "nop call:1 nop call:1 end")
	put(&m, ">", "", "nop call:2 nop nop return end")
	put(&m, ">", "", "nop nop nop end")
	x := small{m, nil, begun(m, 1), 23}
	tells(t, x, 99, told{"1 1 1 1 1 | 2 2 2 2 2 0 | 2 2 2 2", "0 0 1 2, 0 2 1 2, 0 4 1 1, 1 0 2 4, 1 2 2 6, 2 0 2 8", "nop 14, end 3, return 2, call 4", "halted used 23 results"})
	tells(t, x, 6, told{"1 1 0 0 0 | 1 1 0 0 0 0 | 1 1 0 0", "0 0 1 2, 1 0 1 2, 2 0 1 2", "nop 4, call 2", "suspended used 6 frame 0 at 1 locals 1 stack frame 1 at 1 locals stack frame 2 at 2 locals stack"})
	fact := of("l>l", "", "get:0 l.eqz if:>l l.const:1 else get:0 get:0 l.const:1 l.sub call:0 l.mul end end")
	tells(t, small{fact, nil, begun(fact, 5), 62}, 999, told{"6 6 6 1 1 5 5 5 5 5 5 6 6", "0 0 6 18, 0 3 1 2, 0 5 5 25, 0 10 5 5, 0 11 6 6, 0 12 6 6", "if 6, else 1, end 12, call 5, get 16, l.const 6, l.eqz 6, l.sub 5, l.mul 5", "halted used 62 results 120"})
}

// TestHosts: host calls with replies, and with too few; also of a state that has taken some.
func TestHosts(t *testing.T) {
	m := of("w>w", "", "get:0 host:0 nop host:0 end")
	m.Hosts = []int{kind(&m, "w>w")}
	script := []api.Reply{{Results: numbers("5")}, {Results: numbers("6")}}
	all := told{"1 1 1 1 1", "0 0 1 2, 0 2 1 2, 0 4 1 1", "nop 1, end 1, host 2, get 1", "halted used 5 results 6 replies 2"}
	two := told{"1 1 1 1 0", "0 0 1 2, 0 2 1 2", "nop 1, host 2, get 1", ""}
	one := told{"1 1 0 0 0", "0 0 1 2", "host 1, get 1", ""}
	end := func(x told, end string) told {
		x.end = end
		return x
	}
	tells(t, small{m, script, begun(m, 1), 5}, 9, all)
	tells(t, small{m, script[:1], begun(m, 1), 4}, 9, end(two, "trapped used 4 trap 6 replies 1"))
	tells(t, small{m, nil, begun(m, 1), 2}, 9, end(one, "trapped used 2 trap 6"))
	tells(t, small{m, []api.Reply{script[0], {Trap: true}}, begun(m, 1), 4}, 9, end(two, "trapped used 4 trap 6 replies 2"))
	tells(t, small{m, []api.Reply{{Results: numbers("4294967296")}, script[0]}, begun(m, 1), 2}, 9, end(one, "trapped used 2 trap 6 replies 1"))
	second := begun(m, 1)
	second.Replies = 1
	tells(t, small{m, script, second, 4}, 9, end(two, "trapped used 4 trap 6 replies 2"))
	turn := of(">w", "", "host:0 if:>w w.const:1 else w.const:2 end end") // what is replied says where the run goes on
	turn.Hosts = []int{kind(&turn, ">w")}
	tells(t, small{turn, []api.Reply{{Results: numbers("0")}}, begun(turn), 5}, 9, told{"1 1 0 0 1 1 1", "0 0 1 1, 0 1 1 1, 0 4 1 1, 0 5 1 1, 0 6 1 1", "if 1, end 2, host 1, w.const 1", "halted used 5 results 2 replies 1"})
	tells(t, small{turn, []api.Reply{{Results: numbers("7")}}, begun(turn), 6}, 9, told{"1 1 1 1 0 1 1", "0 0 1 1, 0 1 1 1, 0 2 1 2, 0 5 1 1, 0 6 1 1", "if 1, else 1, end 2, host 1, w.const 1", "halted used 6 results 1 replies 1"})
}

// TestTraps: the instruction that traps is executed, and so it is counted; with the fuel for it, and without.
func TestTraps(t *testing.T) {
	for _, x := range []struct {
		code      string
		trap      int
		steps     int
		pcs, ops  string
		less, few string // without the last one
	}{
		{"trap", trapOp, 1, "1", "trap 1, nop 1, call 1", "0", "nop 1, call 1"},
		{"w.const:1 w.load8u drop", trapMemory, 2, "1 1 0", "nop 1, call 1, w.const 1, w.load8u 1", "1 0 0", "nop 1, call 1, w.const 1"},
		{"w.const:1 w.const:0 w.divu drop", trapZero, 3, "1 1 1 0", "nop 1, call 1, w.const 2, w.divu 1", "1 1 0 0", "nop 1, call 1, w.const 2"},
		{"l.const:-9223372036854775808 l.const:-1 l.divs drop", trapRange, 3, "1 1 1 0", "nop 1, call 1, l.const 2, l.divs 1", "1 1 0 0", "nop 1, call 1, l.const 2"},
		{"host:0", trapHost, 1, "1", "nop 1, call 1, host 1", "0", "nop 1, call 1"},
	} {
		m := of(">", "", "nop call:1 end")
		put(&m, ">", "", x.code+" end")
		m.Hosts = []int{0}
		y := small{m, nil, begun(m), x.steps + 2}
		end := fmt.Sprint("trapped used ", x.steps+2, " trap ", x.trap)
		for _, fuel := range []int64{int64(x.steps) + 2, 99, math.MaxInt64} {
			tells(t, y, fuel, told{"1 1 0 | " + x.pcs + " 0", fmt.Sprint("0 0 1 2, 1 0 1 ", x.steps), x.ops, end})
		}
		counts, s := counted(t, y, int64(x.steps)+1)
		if s.End != suspended || saidCounts(counts) != "1 1 0 | "+x.less+" 0" || saidOps(opsOf(t, m, counts)) != x.few {
			t.Errorf("P27.1: %s: %s, %s", x.code, saidCounts(counts), show(s))
		}
	}
	deepest := of(">", "", "nop call:0 end") // the call that has no room for one more frame is executed, too
	tells(t, small{deepest, nil, begun(deepest), 128}, 999, told{"64 64 0", "0 0 64 128", "nop 64, call 64", "trapped used 128 trap 5"})
}

// TestMidst: of a segment in the midst of which the run begins the first instruction may not be executed at all.
func TestMidst(t *testing.T) {
	m := of("w>w", "", "get:0 w.const:1 w.add nop nop end")
	for pc, stack := range []string{"", "7", "7 1", "8", "8", "8"} {
		s := begun(m, 7)
		s.Frames[0].Pc, s.Frames[0].Stack = pc, numbers(stack)
		counts := strings.TrimSpace(strings.Repeat("0 ", pc) + strings.Repeat("1 ", 6-pc))
		ops := []string{"nop 2, end 1, get 1, w.const 1, w.add 1", "nop 2, end 1, w.const 1, w.add 1", "nop 2, end 1, w.add 1", "nop 2, end 1", "nop 1, end 1", "end 1"}[pc]
		entered := max(1-pc, 0)
		tells(t, small{m, nil, s, 6 - pc}, 9, told{counts, fmt.Sprint("0 0 ", entered, " ", 6-pc), ops, fmt.Sprint("halted used ", 6-pc, " results 8")})
	}
	loop := of("w>", "", "loop:> nop get:0 w.const:1 w.sub tee:0 brif:0 end end") // and then it is entered at its beginning, too
	s := begun(loop, 3)
	s.Frames[0].Pc = 2
	tells(t, small{loop, nil, s, 19}, 99, told{"0 2 3 3 3 3 3 1 1", "0 1 2 17, 0 7 1 1, 0 8 1 1", "nop 2, end 2, brif 3, get 3, tee 3, w.const 3, w.sub 3", "halted used 19 results"})
	script := []api.Reply{{}, {}, {}, {Results: numbers("8")}}
	tells(t, small{rich(), script, deep(), 18}, 99, told{
		"0 0 1 1 1 1 1 1 1 | 0 0 1 1 1 1 1 1 1 1 1 1 1",
		"0 2 1 1, 0 3 1 6, 1 0 0 9, 1 11 1 2",
		"end 2, host 2, drop 1, get 2, set 1, gget 1, gset 2, w.const 3, l.const 1, l.store 1, grow 1, w.add 1",
		"halted used 95 results 4 8 globals 7 18446744073709551615 8 pages 3 8 replies 4",
	})
}

// TestWaiting: the frames below the last go on behind their calls, which were executed ahead of the run; that is a segment's beginning.
func TestWaiting(t *testing.T) {
	m := of(">", "", "nop call:0 nop end")
	s := begun(m)
	s.Frames = slices.Repeat([]api.Frame{{Pc: 1}}, most64)
	tells(t, small{m, nil, s, 1}, 9, told{"0 1 0 0", "0 0 0 1", "call 1", "trapped used 1 trap 5"})
	s.Frames[most64-1].Pc = 2
	tells(t, small{m, nil, s, 128}, 999, told{"0 0 64 64", "0 2 64 128", "nop 64, end 64", "halted used 128 results"})
	s.Frames[most64-1].Pc = 3
	tells(t, small{m, nil, s, 127}, 999, told{"0 0 63 64", "0 2 63 127", "nop 63, end 64", "halted used 127 results"})
}

// TestMostUsed: Used stops at 2^62, and what is executed is counted all the same.
func TestMostUsed(t *testing.T) {
	m := of("w>", "", "nop loop:> get:0 w.const:1 w.sub tee:0 brif:0 end end")
	for below := range int64(25) {
		s := begun(m, 3)
		s.Used = mostUsed - below
		tells(t, small{m, nil, s, 19}, 99, told{"1 1 3 3 3 3 3 1 1", "0 0 1 2, 0 2 3 15, 0 7 1 1, 0 8 1 1", "nop 1, loop 1, end 2, brif 3, get 3, tee 3, w.const 3, w.sub 3", fmt.Sprint("halted used ", min(mostUsed, mostUsed-below+19), " results")})
	}
}

// parsed is the module of a text of chapter 6.
func parsed(t *testing.T, source string) api.Module {
	t.Helper()
	m, e, line := text.Parse(source)
	if e != api.OK {
		t.Fatalf("%d at %d", e, line)
	}
	return m
}

// TestWhole: runs of the document's examples of the whole.
func TestWhole(t *testing.T) {
	grow := parsed(t, "flagon\ntype - -> w\nmemory 1 2\nfunc 0 -\n  w.const 8\n  w.const -2\n  w.store 4\n  w.const 1\n  grow\n  end\ndata 16 07ff\nexport main 0\n")
	tells(t, small{grow, nil, begun(grow), 6}, 9, told{"1 1 1 1 1 1", "0 0 1 6", "end 1, w.const 3, w.store 1, grow 1", "halted used 6 results 1 pages 2 4"})
	div := parsed(t, "flagon\ntype ww -> w\nmemory 0 0\nfunc 0 -\n  get 0\n  get 1\n  w.divs\n  end\nexport div 0\n")
	tells(t, small{div, nil, begun(div, 7, 0), 3}, 9, told{"1 1 1 0", "0 0 1 3", "get 2, w.divs 1", "trapped used 3 trap 3"})
	ask := parsed(t, "flagon\ntype w -> w\nextern 0\nmemory 0 0\nfunc 0 -\n  get 0\n  host 0\n  host 0\n  end\nexport ask 0\n")
	tells(t, small{ask, []api.Reply{{Results: numbers("5")}, {Trap: true}}, begun(ask, 1), 3}, 9, told{"1 1 1 0", "0 0 1 2, 0 2 1 1", "host 2, get 1", "trapped used 3 trap 6 replies 2"})
}

// TestLimits: the program's limits are the document's.
func TestLimits(t *testing.T) {
	if api.MaxUsed != mostUsed || api.Page != size || api.MaxFrames != most64 || api.MaxBlock != mostBlock {
		t.Error("P27.1: other limits")
	}
}

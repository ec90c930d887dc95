package trace_test

import (
	"fmt"
	"math"
	"slices"
	"strings"
	"testing"

	"flagon/api"
	"flagon/text"
	"flagon/trace"
)

// TestExamples: the chapter's.
func TestExamples(t *testing.T) {
	five := of(">w", "", "w.const:5 end")
	tells(t, five, nil, begun(five), 9, 9, "0 0 0 w.const, 0 0 1 end", "halted used 2 results 5")
	tells(t, five, nil, begun(five), 9, 1, "0 0 0 w.const", "halted used 2 results 5")
	tells(t, five, nil, begun(five), 1, 9, "0 0 0 w.const", "suspended used 1 frame 0 at 1 locals stack 5")
	tells(t, five, nil, begun(five), 0, 9, "", "suspended used 0 frame 0 at 0 locals stack")
	calls := of(">", "", "call:1 end")
	put(&calls, ">", "", "nop end")
	tells(t, calls, nil, begun(calls), 9, 9, "0 0 0 call, 1 1 0 nop, 1 1 1 end, 0 0 1 end", "halted used 4 results")
	trap := of(">", "", "trap end")
	tells(t, trap, nil, begun(trap), 9, 9, "0 0 0 trap", "trapped used 1 trap 1")
	if list, s, e := trace.Of(five, nil, begun(five), -1, 9); e != 40 || len(list) != 0 || !identical(s, api.State{}) {
		t.Errorf("P26.1: fuel -1: %d, %s, %s", e, said(list), show(s))
	}
	if list, s, e := trace.Of(five, nil, begun(five), 9, -1); e != 1 || len(list) != 0 || !identical(s, api.State{}) {
		t.Errorf("P26.1: most -1: %d, %s, %s", e, said(list), show(s))
	}
}

// TestOp: the opcode of an event is the byte of its instruction.
func TestOp(t *testing.T) {
	m := of(">", "", "w.const:5 drop nop l.const:7 l.eqz drop end")
	list, _ := traced(t, m, nil, begun(m), 9, 9)
	want := []trace.Event{{Op: 0x18}, {Pc: 1, Op: 0x10}, {Pc: 2, Op: 0x01}, {Pc: 3, Op: 0x19}, {Pc: 4, Op: 0x50}, {Pc: 5, Op: 0x10}, {Pc: 6, Op: 0x06}}
	same(t, list, want)
}

// TestWays: what goes on elsewhere than at the next pc, either way of each.
func TestWays(t *testing.T) {
	for _, x := range []struct {
		code string
		arg  uint64
		pcs  string
	}{
		{"get:0 if:> nop else nop nop end end", 1, "0 1 2 3 6 7"},
		{"get:0 if:> nop else nop nop end end", 0, "0 1 4 5 6 7"},
		{"get:0 if:> nop end end", 0, "0 1 3 4"},
		{"get:0 if:> nop end end", 9, "0 1 2 3 4"},
		{"block:> get:0 brif:0 nop end end", 1, "0 1 2 5"},
		{"block:> get:0 brif:0 nop end end", 0, "0 1 2 3 4 5"},
		{"block:> block:> br:1 end end end", 0, "0 1 2 5"},
		{"loop:> get:0 w.const:1 w.sub tee:0 brif:0 end end", 3, "0 1 2 3 4 5 1 2 3 4 5 1 2 3 4 5 6 7"},
		{"nop return end", 0, "0 1"},
		{"nop br:0 end", 0, "0 1"},
		{"get:0 brif:0 end", 1, "0 1"},
		{"get:0 brif:0 end", 0, "0 1 2"},
		{"block:> block:> get:0 brtable:0,1,2 end nop end end", 0, "0 1 2 3 5 6 7"},
		{"block:> block:> get:0 brtable:0,1,2 end nop end end", 1, "0 1 2 3 7"},
		{"block:> block:> get:0 brtable:0,1,2 end nop end end", 2, "0 1 2 3"},
		{"block:> block:> get:0 brtable:1,2,0 end nop end end", high - 1, "0 1 2 3 5 6 7"},
	} {
		m := of("w>", "", x.code)
		list, end := traced(t, m, nil, begun(m, x.arg), 100, 100)
		pcs := strings.Fields(x.pcs)
		if len(list) != len(pcs) || end.End != halted {
			t.Errorf("P26.1: %s of %d: %s", x.code, x.arg, said(list))
			continue
		}
		for at, p := range list {
			if p.Depth != 0 || p.Function != 0 || fmt.Sprint(p.Pc) != pcs[at] || p.Op != m.Functions[0].Code[p.Pc].Op {
				t.Errorf("P26.1: %s of %d: %s", x.code, x.arg, said(list))
				break
			}
		}
	}
}

// TestCalls: Depth rises at a call and falls where a function is left, by each way out of it.
func TestCalls(t *testing.T) {
	for out, last := range map[string]string{"end": "end", "return end": "return", "br:0 end": "br", "get:0 brif:0 end": "brif", "get:0 brtable:0 end": "brtable"} {
		m := of("w>", "", "get:0 call:1 get:0 call:2 end")
		put(&m, "w>", "", "nop get:0 call:2 "+out)
		put(&m, "w>", "", out)
		var inner, own []string
		for at, piece := range strings.Fields(out) {
			word, _, _ := strings.Cut(piece, ":")
			inner = append(inner, fmt.Sprint(" 2 ", at, " ", word))
			own = append(own, fmt.Sprint("1 1 ", 3+at, " ", word))
			if word == last {
				break
			}
		}
		want := "0 0 0 get, 0 0 1 call, 1 1 0 nop, 1 1 1 get, 1 1 2 call, 2" + strings.Join(inner, ", 2") + ", " + strings.Join(own, ", ") + ", 0 0 2 get, 0 0 3 call, 1" + strings.Join(inner, ", 1") + ", 0 0 4 end"
		tells(t, m, nil, begun(m, 1), 99, 99, want, fmt.Sprint("halted used ", strings.Count(want, ",")+1, " results"))
	}
}

// TestDeepest: 64 frames one in the other, and the call that has no room for one more, which is executed, too.
func TestDeepest(t *testing.T) {
	m := of(">", "", "call:0 end")
	list, end := traced(t, m, nil, begun(m), 1000, 1000)
	if len(list) != most64 || show(end) != "trapped used 64 trap 5" {
		t.Fatalf("P26.1: %d events, %s", len(list), show(end))
	}
	for at, x := range list {
		if x != (trace.Event{Depth: at, Op: 0x0b}) {
			t.Errorf("P26.1: at %d: %v", at, x)
		}
	}
	fact := of("w>", "", "get:0 if:> get:0 w.const:1 w.sub call:0 end end")
	list, end = traced(t, fact, nil, begun(fact, 63), 1000, 1000)
	if len(list) != 63*8+4 || show(end) != "halted used 508 results" {
		t.Fatalf("P26.1: %d events, %s", len(list), show(end))
	}
	for at, x := range list {
		depth := at / 6
		if at >= 63*6 {
			depth = 63 - max(0, at-63*6-2)/2
		}
		if x.Depth != depth || x.Function != 0 {
			t.Errorf("P26.1: at %d: %v, not the depth %d", at, x, depth)
		}
	}
}

// TestHosts: host calls with replies, and with too few; also of a state that has taken some.
func TestHosts(t *testing.T) {
	m := of("w>w", "", "get:0 host:0 host:0 end")
	m.Hosts = []int{kind(&m, "w>w")}
	script := []api.Reply{{Results: numbers("5")}, {Results: numbers("6")}}
	all, two, one := "0 0 0 get, 0 0 1 host, 0 0 2 host, 0 0 3 end", "0 0 0 get, 0 0 1 host, 0 0 2 host", "0 0 0 get, 0 0 1 host"
	tells(t, m, script, begun(m, 1), 9, 9, all, "halted used 4 results 6 replies 2")
	tells(t, m, script[:1], begun(m, 1), 9, 9, two, "trapped used 3 trap 6 replies 1")
	tells(t, m, nil, begun(m, 1), 9, 9, one, "trapped used 2 trap 6")
	tells(t, m, []api.Reply{script[0], {Trap: true}}, begun(m, 1), 9, 9, two, "trapped used 3 trap 6 replies 2")
	tells(t, m, []api.Reply{{Results: numbers("4294967296")}, script[0]}, begun(m, 1), 9, 9, one, "trapped used 2 trap 6 replies 1")
	second := begun(m, 1)
	second.Replies = 1
	tells(t, m, script, second, 9, 9, two, "trapped used 3 trap 6 replies 2")
	second.Replies = math.MaxInt64
	tells(t, m, script, second, 9, 9, one, "trapped used 2 trap 6 replies 9223372036854775807")
	turn := of(">w", "", "host:0 if:>w w.const:1 else w.const:2 end end") // what is replied says where the run goes on
	turn.Hosts = []int{kind(&turn, ">w")}
	tells(t, turn, []api.Reply{{Results: numbers("0")}}, begun(turn), 9, 9, "0 0 0 host, 0 0 1 if, 0 0 4 w.const, 0 0 5 end, 0 0 6 end", "halted used 5 results 2 replies 1")
	tells(t, turn, []api.Reply{{Results: numbers("7")}}, begun(turn), 9, 9, "0 0 0 host, 0 0 1 if, 0 0 2 w.const, 0 0 3 else, 0 0 5 end, 0 0 6 end", "halted used 6 results 1 replies 1")
}

// TestTraps: the instruction that traps is executed, and so it is told; with the fuel for it, and without.
func TestTraps(t *testing.T) {
	for _, x := range []struct {
		code string
		trap int
	}{
		{"trap", trapOp},
		{"w.const:1 w.load8u drop", trapMemory},
		{"w.const:1 w.const:0 w.divu drop", trapZero},
		{"l.const:-9223372036854775808 l.const:-1 l.divs drop", trapRange},
		{"host:0", trapHost},
	} {
		m := of(">", "", "nop call:1 end")
		put(&m, ">", "", x.code+" end")
		m.Hosts = []int{0}
		words := strings.Fields(strings.TrimSuffix(x.code, " drop"))
		want := "0 0 0 nop, 0 0 1 call"
		for at, piece := range words {
			word, _, _ := strings.Cut(piece, ":")
			want += fmt.Sprint(", 1 1 ", at, " ", word)
		}
		steps := int64(2 + len(words))
		end := fmt.Sprint("trapped used ", steps, " trap ", x.trap)
		for _, fuel := range []int64{steps, steps + 1, 1000, math.MaxInt64} {
			tells(t, m, nil, begun(m), fuel, 1000, want, end)
		}
		list, s := traced(t, m, nil, begun(m), steps-1, 1000)
		if s.End != suspended || said(list) != want[:strings.LastIndex(want, ",")] {
			t.Errorf("P26.1: %s: %s, %s", x.code, said(list), show(s))
		}
	}
}

// TestFuel: the step at which the fuel ends is not made, and not told; a run that ends just there has its last step told.
func TestFuel(t *testing.T) {
	m := of(">w", "", "nop nop w.const:7 end")
	events := []string{"0 0 0 nop", "0 0 1 nop", "0 0 2 w.const", "0 0 3 end"}
	for fuel := range int64(4) {
		stack := []string{"", "", "", " 7"}[fuel]
		tells(t, m, nil, begun(m), fuel, 9, strings.Join(events[:fuel], ", "), fmt.Sprint("suspended used ", fuel, " frame 0 at ", fuel, " locals stack", stack))
	}
	for _, fuel := range []int64{4, 5, 1 << 31, 1 << 32, 1<<32 + 1, mostUsed, mostUsed + 1, math.MaxInt64} {
		for _, most := range []int{0, 1, 2, 3, 4, 5, mostOf} {
			tells(t, m, nil, begun(m), fuel, most, strings.Join(events[:min(most, 4)], ", "), "halted used 4 results 7")
		}
	}
}

// TestMidst: a run that begins in the midst of a code, with several frames.
func TestMidst(t *testing.T) {
	script := []api.Reply{{}, {}, {}, {Results: numbers("8")}}
	list := "1 1 2 gset, 1 1 3 gset, 1 1 4 w.const, 1 1 5 l.const, 1 1 6 l.store, 1 1 7 w.const, 1 1 8 grow, 1 1 9 drop, 1 1 10 host, 1 1 11 gget, 1 1 12 end, 0 0 2 host, 0 0 3 set, 0 0 4 get, 0 0 5 w.const, 0 0 6 w.add, 0 0 7 get, 0 0 8 end"
	tells(t, rich(), script, deep(), 99, 99, list, "halted used 95 results 4 8 globals 7 18446744073709551615 8 pages 3 8 replies 4")
	m := of("w>w", "", "get:0 block:w>w w.const:1 w.add nop nop end end")
	for pc, stack := range []string{"", "7", "7", "7 1", "8", "8", "8", "8"} {
		s := begun(m, 7)
		s.Frames[0].Pc, s.Frames[0].Stack = pc, numbers(stack)
		all := strings.Split("0 0 0 get, 0 0 1 block, 0 0 2 w.const, 0 0 3 w.add, 0 0 4 nop, 0 0 5 nop, 0 0 6 end, 0 0 7 end", ", ")
		tells(t, m, nil, s, 9, 9, strings.Join(all[pc:], ", "), fmt.Sprint("halted used ", 8-pc, " results 8"))
	}
}

// TestFullFrames: a run that begins with as many frames as there may be, each at its call.
func TestFullFrames(t *testing.T) {
	m := of(">", "", "nop call:0 nop end")
	s := begun(m)
	s.Frames = nil
	for range most64 {
		s.Frames = append(s.Frames, api.Frame{Pc: 1})
	}
	tells(t, m, nil, s, 9, 9, "63 0 1 call", "trapped used 1 trap 5")
	s.Frames[most64-1].Pc = 2
	list, end := traced(t, m, nil, s, 1000, 1000)
	if len(list) != 2*most64 || show(end) != "halted used 128 results" {
		t.Fatalf("P26.1: %d events, %s", len(list), show(end))
	}
	for at, x := range list {
		want := trace.Event{Depth: most64 - 1 - at/2, Pc: 2 + at%2, Op: []byte{0x01, 0x06}[at%2]}
		if x != want {
			t.Errorf("P26.1: at %d: %v, not %v", at, x, want)
		}
	}
}

// around: what counting executes at that step.
func around(step int) trace.Event {
	if step == 0 {
		return trace.Event{Op: 0x03}
	}
	at := (step - 1) % 5
	return trace.Event{Pc: 1 + at, Op: []byte{0x12, 0x19, 0x5a, 0x13, 0x07}[at]}
}

// TestMost: a run of fewer steps than most, of as many and of more, up to the greatest most.
func TestMost(t *testing.T) {
	m, s := counting()
	for _, fuel := range []int64{0, 1, 2, 7, 100, mostOf - 1, mostOf, mostOf + 1, 3 * mostOf, 5000000} {
		for _, most := range []int{0, 1, 2, 6, 7, 8, 99, 100, 101, 255, 256, 257, 65534, mostOf - 1, mostOf} {
			list, end := traced(t, m, nil, s, fuel, most)
			if len(list) != int(min(fuel, int64(most))) || end.Used != fuel {
				t.Fatalf("P26.1: fuel %d, most %d: %d events, Used %d", fuel, most, len(list), end.Used)
			}
			for step, x := range list {
				if x != around(step) {
					t.Fatalf("P26.1: fuel %d, most %d: at %d %v, not %v", fuel, most, step, x, around(step))
				}
			}
		}
	}
}

// TestMostUsed: Used stops at 2^62, and the steps are told all the same.
func TestMostUsed(t *testing.T) {
	m, s := counting()
	for _, used := range []int64{mostUsed - 100, mostUsed - 21, mostUsed - 20, mostUsed - 19, mostUsed - 2, mostUsed - 1, mostUsed} {
		s.Used = used
		for _, fuel := range []int64{0, 1, 2, 19, 20, 21, 100} {
			list, end := traced(t, m, nil, s, fuel, 50)
			if len(list) != int(min(fuel, 50)) || end.Used != min(used+fuel, mostUsed) {
				t.Errorf("P26.1: Used %d, fuel %d: %d events, Used %d", used, fuel, len(list), end.Used)
			}
			for step, x := range list {
				if x != around(step) {
					t.Errorf("P26.1: Used %d, fuel %d: at %d %v, not %v", used, fuel, step, x, around(step))
				}
			}
		}
	}
	for word, code := range map[string]string{"halted used 4611686018427387904 results": "nop end", "trapped used 4611686018427387904 trap 1": "nop trap end"} {
		m := of(">", "", code)
		for below := range int64(3) {
			s := begun(m)
			s.Used = mostUsed - below
			tells(t, m, nil, s, 9, 9, "0 0 0 nop, 0 0 1 "+strings.Fields(code)[1], word)
		}
	}
}

// parsed is the module of a text of chapter 6.
func parsed(t *testing.T, source string) api.Module {
	t.Helper()
	m, e, line := text.Parse(source)
	if e != api.OK {
		t.Fatalf("%d at %d", e, line)
	}
	return m
}

// TestWhole: runs of the document's examples of the whole.
func TestWhole(t *testing.T) {
	down := parsed(t, "flagon\ntype - -> -\ntype w -> w\nmemory 0 0\nfunc 1 -\n  loop 0\n    get 0\n    w.const 1\n    w.sub\n    tee 0\n    brif 0\n  end\n  w.const 7\n  end\nexport down 0\n")
	round := "0 0 1 get, 0 0 2 w.const, 0 0 3 w.sub, 0 0 4 tee, 0 0 5 brif, "
	tells(t, down, nil, begun(down, 3), 108, 108, "0 0 0 loop, "+strings.Repeat(round, 3)+"0 0 6 end, 0 0 7 w.const, 0 0 8 end", "halted used 19 results 7")
	tells(t, down, nil, begun(down, 3), 8, 108, "0 0 0 loop, "+round+"0 0 1 get, 0 0 2 w.const", "suspended used 8 frame 0 at 3 locals 2 stack 2 1")
	fact := parsed(t, "flagon\ntype l -> l\ntype - -> l\nmemory 0 0\nfunc 0 -\n  get 0\n  l.eqz\n  if 1\n    l.const 1\n  else\n    get 0\n    get 0\n    l.const 1\n    l.sub\n    call 0\n    l.mul\n  end\n  end\nexport fact 0\n")
	tells(t, fact, nil, begun(fact, 1), 99, 99, "0 0 0 get, 0 0 1 l.eqz, 0 0 2 if, 0 0 5 get, 0 0 6 get, 0 0 7 l.const, 0 0 8 l.sub, 0 0 9 call, 1 0 0 get, 1 0 1 l.eqz, 1 0 2 if, 1 0 3 l.const, 1 0 4 else, 1 0 11 end, 1 0 12 end, 0 0 10 l.mul, 0 0 11 end, 0 0 12 end", "halted used 18 results 1")
	list, _ := traced(t, fact, nil, begun(fact, 5), 1000, 1000)
	if n := trace.Counts(list); len(list) != 62 || n[0x0b] != 5 || n[0x5c] != 5 || n[0x04] != 6 || n[0x05] != 1 || n[0x06] != 12 || n[0x12] != 16 {
		t.Errorf("P26.2: %d events, %v", len(list), n)
	}
}

// counted: the numbers that are not 0, each behind its place.
func counted(list []int64) string {
	var out []string
	for at, n := range list {
		if n != 0 {
			out = append(out, fmt.Sprint(at, ":", n))
		}
	}
	return strings.Join(out, " ")
}

// TestCounts: of no events, of events of one opcode, of each one, of all of them; whatever else an event says.
func TestCounts(t *testing.T) {
	for _, none := range [][]trace.Event{nil, {}, make([]trace.Event, 0, 9)} {
		if n := trace.Counts(none); len(n) != 256 || counted(n) != "" {
			t.Errorf("P26.2: of none: %v", n)
		}
	}
	var all []trace.Event
	var want []string
	for op := range 256 { // those that are no instruction's, too
		one := trace.Event{Depth: -op, Function: op * 7, Pc: math.MinInt + op, Op: byte(op)}
		for _, times := range []int{1, 2, 255, 256, 257} {
			if n := trace.Counts(slices.Repeat([]trace.Event{one}, times)); len(n) != 256 || counted(n) != fmt.Sprint(op, ":", times) {
				t.Errorf("P26.2: %d times %d: %s", times, op, counted(n))
			}
		}
		all = append(all, slices.Repeat([]trace.Event{one}, op+1)...)
		want = append(want, fmt.Sprint(op, ":", op+1))
	}
	if n := trace.Counts(all); len(n) != 256 || counted(n) != strings.Join(want, " ") {
		t.Errorf("P26.2: %s", counted(n))
	}
	slices.Reverse(all)
	if n := trace.Counts(all); counted(n) != strings.Join(want, " ") {
		t.Errorf("P26.2: %s", counted(n))
	}
	if n := trace.Counts(make([]trace.Event, 1000000)); counted(n) != "0:1000000" {
		t.Errorf("P26.2: %s", counted(n))
	}
}

// TestLimits: the program's limits are the document's.
func TestLimits(t *testing.T) {
	if api.MaxUsed != mostUsed || api.Page != size || api.MaxFrames != most64 {
		t.Error("P26.1: other limits")
	}
}

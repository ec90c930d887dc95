package trace_test

import (
	"math"
	"math/rand"
	"slices"
	"testing"

	"flagon/api"
	"flagon/control"
	"flagon/fast"
	"flagon/trace"
)

// follows: what the chapter says of each trace, and whether it is that of single steps.
func follows(t *testing.T, x small, fuel int64, most int) []trace.Event {
	t.Helper()
	list, end := traced(t, x.m, x.script, x.s, fuel, most)
	events, _ := way(t, x.m, x.script, x.s, int(min(fuel, int64(most))))
	same(t, list, events)
	if int64(most) >= fuel && end.Used < mostUsed && end.Used-x.s.Used != int64(len(list)) {
		t.Fatalf("W4: %d events, Used %d behind %d", len(list), end.Used, x.s.Used)
	}
	if other, e := fast.Run(x.m, x.script, x.s, fuel); e != api.OK || !identical(end, other) {
		t.Fatalf("W1: %d, %s, not %s", e, show(end), show(other))
	}
	if len(list) > 0 {
		last := x.s.Frames[len(x.s.Frames)-1]
		if list[0].Depth != len(x.s.Frames)-1 || list[0].Function != last.Function || list[0].Pc != last.Pc {
			t.Fatalf("P26.1: the first event %v of %s", list[0], show(x.s))
		}
	}
	goes(t, x.m, x.s.Frames, list)
	sums(t, list)
	return list
}

// goes: can control go from each event's place to the next one's, or is that the function's first at a call, or the one behind the call where a function returns?
func goes(t *testing.T, m api.Module, frames []api.Frame, list []trace.Event) {
	t.Helper()
	var open []trace.Event // the calls that have not returned, the outer ones first
	for at, f := range frames[:len(frames)-1] {
		open = append(open, trace.Event{Depth: at, Function: f.Function, Pc: f.Pc, Op: 0x0b})
	}
	for at := range len(list) - 1 {
		a, b := list[at], list[at+1]
		code := m.Functions[a.Function].Code
		if a.Op == 0x0b {
			open = append(open, a)
			if want := (trace.Event{Depth: a.Depth + 1, Function: int(code[a.Pc].A), Op: b.Op}); b != want {
				t.Fatalf("P26.1: at %d: %v behind the call %v", at, b, a)
			}
			continue
		}
		to, depth, function := b.Pc, a.Depth, a.Function
		if b.Depth < a.Depth {
			caller := open[len(open)-1]
			open = open[:len(open)-1]
			if b.Pc != caller.Pc+1 {
				t.Fatalf("P26.1: at %d: %v behind %v, which returns to %v", at, b, a, caller)
			}
			to, depth, function = len(code), caller.Depth, caller.Function
		}
		if b.Depth != depth || b.Function != function || !slices.Contains(control.Next(code, a.Pc), to) {
			t.Fatalf("P26.1: at %d: %v behind %v", at, b, a)
		}
	}
}

// sums: is the sum of what is counted how many events there are, and each count how many have that opcode?
func sums(t *testing.T, list []trace.Event) {
	t.Helper()
	counts := trace.Counts(list)
	var want [256]int64
	sum := int64(0)
	for _, x := range list {
		want[x.Op]++
	}
	for _, n := range counts {
		sum += n
	}
	if sum != int64(len(list)) || !slices.Equal(counts, want[:]) {
		t.Fatalf("P26.2: of %d events: %v", len(list), counts)
	}
}

// TestEvery: of each fuel of small runs, to their ends and beyond, and of each most.
func TestEvery(t *testing.T) {
	t.Parallel()
	for _, x := range append(smalls(), segmented()...) {
		for fuel := range int64(x.steps + 3) {
			follows(t, x, fuel, mostOf)
			for most := range int(fuel) + 2 {
				if most < 3 || most%7 == 0 || most > int(fuel)-2 {
					follows(t, x, fuel, most)
				}
			}
		}
		for _, below := range []int64{0, 1, 2, 5} {
			far := late(x, below)
			follows(t, far, int64(x.steps+2), mostOf)
			follows(t, far, 4, 3)
		}
	}
}

// parts: is what is traced in two parts, one behind the other, traced as in one?
func parts(t *testing.T, x small, fuel, cut int64) {
	t.Helper()
	one, end := traced(t, x.m, x.script, x.s, fuel, mostOf)
	first, mid := traced(t, x.m, x.script, x.s, cut, mostOf)
	var second []trace.Event
	behind := mid
	if mid.End == suspended {
		second, behind = traced(t, x.m, x.script, mid, fuel-cut, mostOf)
	} else {
		nothing(t, x.m, x.script, mid, fuel-cut, mostOf, api.ErrDone)
	}
	same(t, slices.Concat(first, second), one)
	if !identical(behind, end) {
		t.Fatalf("W2: cut at %d: %s, not %s", cut, show(behind), show(end))
	}
	all := trace.Counts(one)
	for op, n := range trace.Counts(first) {
		if n += trace.Counts(second)[op]; n != all[op] {
			t.Fatalf("P26.2: cut at %d: %d of %d, not %d", cut, n, op, all[op])
		}
	}
}

// TestParts: small runs, cut at each place; near the most that can be used, too.
func TestParts(t *testing.T) {
	t.Parallel()
	for _, x := range append(smalls(), segmented()...) {
		fuel := int64(x.steps + 2)
		for cut := range fuel + 1 {
			parts(t, x, fuel, cut)
			parts(t, late(x, 7), fuel, cut)
		}
	}
}

// TestMany: a trace in as many parts as it has events.
func TestMany(t *testing.T) {
	for _, x := range append(smalls(), segmented()...) {
		one, end := traced(t, x.m, x.script, x.s, int64(x.steps), mostOf)
		var list []trace.Event
		s := x.s
		for range x.steps {
			event, next := traced(t, x.m, x.script, s, 1, 1)
			list = append(list, event...)
			s = next
		}
		same(t, list, one)
		if len(list) != x.steps || !identical(s, end) {
			t.Fatalf("W6: %d events, %s, not %s", len(list), show(s), show(end))
		}
	}
}

// TestLongParts: runs of more steps than a trace may have events, cut near the bound.
func TestLongParts(t *testing.T) {
	m, s := counting()
	for _, cut := range []int64{0, 1, 5, mostOf - 3, mostOf - 1, mostOf} {
		parts(t, small{m, nil, s, 0}, mostOf, cut)
	}
	list, mid := traced(t, m, nil, s, mostOf, mostOf)
	more, _ := traced(t, m, nil, mid, mostOf, mostOf)
	for step, x := range append(list, more...) {
		if x != around(step) {
			t.Fatalf("P26.1: at %d %v, not %v", step, x, around(step))
		}
	}
}

// TestDrawnRuns: runs of drawn modules, from their beginnings, and from states that may be though none comes to them.
func TestDrawnRuns(t *testing.T) {
	t.Parallel()
	r := rand.New(rand.NewSource(262))
	ends, deepest, ops := map[int8]int{}, 0, map[byte]int{}
	for round := range 700 {
		m := drawnModule(r)
		x := small{m, drawnScript(r, m), drawnBeginning(r, m), 0}
		if round%2 == 1 {
			x.s = drawnState(r, m)
		}
		list := follows(t, x, 80, mostOf)
		for _, event := range list {
			deepest, ops[event.Op] = max(deepest, event.Depth), ops[event.Op]+1
		}
		for range 4 {
			follows(t, x, int64(r.Intn(80)), r.Intn(90))
			parts(t, x, 80, int64(r.Intn(81)))
		}
		_, end := traced(t, m, x.script, x.s, 80, 0)
		ends[end.End]++
	}
	for end := int8(suspended); end <= trapped; end++ {
		if ends[end] < 50 {
			t.Errorf("%d runs that stand as %d does", ends[end], end)
		}
	}
	if deepest != most64-1 || len(ops) != len(wordOf) {
		t.Errorf("the depth %d at most, %d opcodes of %d", deepest, len(ops), len(wordOf))
	}
}

// TestAgain: a call's answer hangs on its arguments alone, whatever was called between.
func TestAgain(t *testing.T) {
	r := rand.New(rand.NewSource(263))
	for range 100 {
		m := drawnModule(r)
		script, s := drawnScript(r, m), drawnState(r, m)
		first, end := traced(t, m, script, s, 30, 20)
		other := drawnModule(r)
		trace.Of(other, drawnScript(r, other), drawnState(r, other), 30, 9)
		trace.Of(m, nil, s, 7, 3)
		trace.Counts(first)
		second, end2 := traced(t, m, script, s, 30, 20)
		same(t, second, first)
		if !identical(end, end2) {
			t.Fatalf("R6: %s, then %s", show(end), show(end2))
		}
	}
}

// TestGreatest: a trace of the greatest state that may be, of some module.
func TestGreatest(t *testing.T) {
	const mostStack = 256
	var m api.Module
	m.First, m.Most = most64, most64
	m.Globals = slices.Repeat([]api.Global{{Letter: 'l', Mutable: true}}, most64)
	put(&m, ">", string(slices.Repeat([]byte("l"), most64)), "l.const:-1*256 call:0 drop*256 end")
	top := func(n int) []uint64 { return slices.Repeat([]uint64{math.MaxUint64}, n) }
	s := api.State{End: suspended, Used: mostUsed - 300, Replies: math.MaxInt64, Globals: top(most64)}
	for range most64 {
		s.Pages = append(s.Pages, slices.Repeat([]byte{255}, size))
		s.Frames = append(s.Frames, api.Frame{Pc: mostStack, Locals: top(most64), Stack: top(mostStack)})
	}
	s.Frames[most64-1].Pc++ // behind its call, or else it traps
	x := small{m, nil, s, 0}
	follows(t, x, 600, mostOf)
	list, end := traced(t, m, nil, s, mostOf, mostOf)
	goes(t, m, s.Frames, list)
	if len(list) != most64*257 || end.End != halted || end.Used != mostUsed {
		t.Errorf("W4: %d events, %s", len(list), show(end))
	}
}

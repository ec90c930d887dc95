package profile_test

import (
	"math"
	"math/rand"
	"slices"
	"testing"

	"flagon/api"
	"flagon/fast"
	"flagon/meter"
	"flagon/profile"
	"flagon/trace"
)

// follows: what the chapter says of each run, of a fuel that is small; and whether what is counted is what single steps count.
func follows(t *testing.T, x small, fuel int64) ([][]int64, []profile.Line) {
	t.Helper()
	counts, end := counted(t, x, fuel)
	if want := way(t, x, int(fuel)); !sameCounts(counts, want) {
		t.Fatalf("P27.1: %s, fuel %d: %s, not %s", code(x.m, 0), fuel, saidCounts(counts), saidCounts(want))
	}
	if other, e := fast.Run(x.m, x.script, x.s, fuel); e != api.OK || !identical(end, other) {
		t.Fatalf("W1: %d, %s, not %s", e, show(end), show(other))
	}
	lines, ops := holds(t, x.m, counts)
	paid(t, x, end, lines, ops)
	events, _, e := trace.Of(x.m, x.script, x.s, fuel, 65536)
	if e != api.OK || !slices.Equal(ops, trace.Counts(events)) {
		t.Fatalf("P27.3: %s, not %s", saidOps(ops), saidOps(trace.Counts(events)))
	}
	return counts, lines
}

// paid: is what is told together just what Used became more by, unless it stopped?
func paid(t *testing.T, x small, end api.State, lines []profile.Line, ops []int64) {
	t.Helper()
	byLines, byOps := int64(0), int64(0)
	for _, line := range lines {
		byLines += line.Fuel
	}
	for _, n := range ops {
		byOps += n
	}
	if byLines != byOps || end.Used < mostUsed && byOps != end.Used-x.s.Used {
		t.Fatalf("W4: %s, %s: not %d", saidLines(lines), saidOps(ops), end.Used-x.s.Used)
	}
}

// whole: of each segment that nothing cut, is Fuel just Entered times its length? Of a run that begins where a segment begins that is each one, if it halts; if it traps, or its fuel is used up, it is each one but that at which it stands then.
func whole(t *testing.T, x small, fuel int64, lines []profile.Line) int {
	t.Helper()
	_, end := counted(t, x, fuel)
	var cut profile.Line
	switch first := x.s.Frames[len(x.s.Frames)-1]; {
	case !slices.ContainsFunc(bounds(x.m.Functions[first.Function].Code), func(b [2]int) bool { return b[0] == first.Pc }):
		return 0
	case end.End != halted:
		cut = lastOf(t, x, fuel)
	}
	kept := 0
	for _, line := range lines {
		if end.End != halted && line.Function == cut.Function && line.Start == cut.Start {
			continue
		}
		kept++
		if line.Fuel != line.Entered*length(x.m, line) {
			t.Fatalf("P27.2: %s, fuel %d: %v", code(x.m, line.Function), fuel, line)
		}
	}
	return kept
}

// lastOf: the segment at which a run stands when it traps or is suspended.
func lastOf(t *testing.T, x small, fuel int64) profile.Line {
	t.Helper()
	events, s, _ := trace.Of(x.m, x.script, x.s, fuel, 65536)
	at := trace.Event{}
	if len(events) > 0 {
		at = events[len(events)-1]
	}
	if s.End == suspended {
		at.Function, at.Pc = s.Frames[len(s.Frames)-1].Function, s.Frames[len(s.Frames)-1].Pc
	}
	for _, b := range bounds(x.m.Functions[at.Function].Code) {
		if b[0] <= at.Pc && at.Pc < b[1] {
			return profile.Line{Function: at.Function, Start: b[0]}
		}
	}
	t.Fatalf("no segment at %v", at)
	return profile.Line{}
}

// length: of the segment of that line.
func length(m api.Module, line profile.Line) int64 {
	for _, b := range bounds(m.Functions[line.Function].Code) {
		if b[0] == line.Start {
			return int64(b[1] - b[0])
		}
	}
	return -1
}

// TestEvery: of each fuel of small runs, to their ends and beyond; near the most that can be used, too.
func TestEvery(t *testing.T) {
	t.Parallel()
	kept := 0
	for _, x := range append(smalls(), segmented()...) {
		for fuel := range int64(x.steps + 3) {
			_, lines := follows(t, x, fuel)
			kept += whole(t, x, fuel, lines)
			follows(t, late(x, 3), fuel)
		}
	}
	if kept < 1000 {
		t.Errorf("%d segments that nothing cut", kept)
	}
}

// TestEntered: of a run that begins where a segment begins and ends by itself, all Entered together are as many as the engine that pays for blocks enters.
func TestEntered(t *testing.T) {
	t.Parallel()
	r := rand.New(rand.NewSource(274))
	list := append(smalls(), segmented()...)
	for range 300 {
		m := drawnModule(r)
		list = append(list, small{m, drawnScript(r, m), drawnBeginning(r, m), 0})
	}
	runs := 0
	for _, x := range list {
		end, c, e := meter.Run(meter.Fast, x.m, x.script, x.s, 200)
		if e != api.OK || end.End == suspended || x.s.Frames[len(x.s.Frames)-1].Pc > 0 {
			continue
		}
		runs++
		counts, _ := counted(t, x, 200)
		entered := int64(0)
		for _, line := range linesOf(t, x.m, counts) {
			entered += line.Entered
		}
		if entered != c.Entered {
			t.Fatalf("P27.2: %s: %d, not %d", code(x.m, 0), entered, c.Entered)
		}
	}
	if runs < 150 {
		t.Errorf("%d runs", runs)
	}
}

// parts: is what is counted in two parts, one behind the other, together what is counted in one?
func parts(t *testing.T, x small, fuel, cut int64) {
	t.Helper()
	one, end := counted(t, x, fuel)
	all, mid := counted(t, x, cut)
	behind := mid
	if mid.End == suspended {
		var second [][]int64
		second, behind = counted(t, small{x.m, x.script, mid, 0}, fuel-cut)
		for function, list := range second {
			for pc, n := range list {
				all[function][pc] += n
			}
		}
	} else {
		nothing(t, small{x.m, x.script, mid, 0}, fuel-cut, api.ErrDone)
	}
	if !sameCounts(all, one) || !identical(behind, end) {
		t.Fatalf("W2: cut at %d: %s, %s, not %s, %s", cut, saidCounts(all), show(behind), saidCounts(one), show(end))
	}
}

// TestParts: small runs, cut at each place; near the most that can be used, too.
func TestParts(t *testing.T) {
	t.Parallel()
	for _, x := range append(smalls(), segmented()...) {
		fuel := int64(x.steps + 2)
		for cut := range fuel + 1 {
			parts(t, x, fuel, cut)
			parts(t, late(x, 7), fuel, cut)
		}
	}
	m, s := counting()
	for _, cut := range []int64{0, 1, 7, 65535, 65536, 65537, 199999, 200000} {
		parts(t, small{m, nil, s, 0}, 200000, cut)
	}
}

// TestDrawnRuns: runs of drawn modules, from their beginnings, and from states that may be though none comes to them.
func TestDrawnRuns(t *testing.T) {
	t.Parallel()
	r := rand.New(rand.NewSource(275))
	ends, ops, midst := map[int8]int{}, map[byte]int64{}, 0
	for round := range 700 {
		m := drawnModule(r)
		x := small{m, drawnScript(r, m), drawnBeginning(r, m), 0}
		if round%2 == 1 {
			x.s = drawnState(r, m)
		}
		counts, lines := follows(t, x, 80)
		whole(t, x, 80, lines)
		for _, line := range lines {
			if line.Entered*length(m, line) < line.Fuel { // the run began in its midst
				midst++
			}
		}
		for op, n := range opsOf(t, m, counts) {
			if n > 0 {
				ops[byte(op)] += n
			}
		}
		for range 4 {
			_, lines = follows(t, x, int64(r.Intn(80)))
			parts(t, x, 80, int64(r.Intn(81)))
		}
		_, end := counted(t, x, 80)
		ends[end.End]++
	}
	for end := int8(suspended); end <= trapped; end++ {
		if ends[end] < 50 {
			t.Errorf("%d runs that stand as %d does", ends[end], end)
		}
	}
	if len(ops) != len(wordOf) || midst < 50 {
		t.Errorf("%d opcodes of %d, %d runs from the midst of a segment", len(ops), len(wordOf), midst)
	}
}

// TestAgain: a call's answer hangs on its arguments alone, whatever was called between.
func TestAgain(t *testing.T) {
	r := rand.New(rand.NewSource(276))
	for range 100 {
		m := drawnModule(r)
		x := small{m, drawnScript(r, m), drawnState(r, m), 0}
		first, end := counted(t, x, 30)
		lines, ops := holds(t, m, first)
		other := drawnModule(r)
		profile.Counts(other, drawnScript(r, other), drawnState(r, other), 30)
		profile.Counts(m, nil, x.s, 7)
		profile.Lines(other, first)
		profile.Ops(m, drawnCounts(r, m))
		second, end2 := counted(t, x, 30)
		lines2, ops2 := holds(t, m, second)
		if !sameCounts(first, second) || !identical(end, end2) || !slices.Equal(lines, lines2) || !slices.Equal(ops, ops2) {
			t.Fatalf("R6: %s, then %s", show(end), show(end2))
		}
	}
}

// TestGreatestState: a run from the greatest state that may be, of some module.
func TestGreatestState(t *testing.T) {
	const mostStack = 256
	var m api.Module
	m.First, m.Most = most64, most64
	m.Globals = slices.Repeat([]api.Global{{Letter: 'l', Mutable: true}}, most64)
	put(&m, ">", string(slices.Repeat([]byte("l"), most64)), "l.const:-1*256 call:0 drop*256 end")
	full := func(n int) []uint64 { return slices.Repeat([]uint64{math.MaxUint64}, n) }
	s := api.State{End: suspended, Used: mostUsed - 300, Replies: math.MaxInt64, Globals: full(most64)}
	for range most64 {
		s.Pages = append(s.Pages, slices.Repeat([]byte{255}, size))
		s.Frames = append(s.Frames, api.Frame{Pc: mostStack, Locals: full(most64), Stack: full(mostStack)})
	}
	s.Frames[most64-1].Pc++ // behind its call, or else it traps
	x := small{m, nil, s, 0}
	follows(t, x, 300)
	counts, end := counted(t, x, math.MaxInt64)
	lines, ops := holds(t, m, counts)
	if len(lines) != 17 || ops[opcodeOf["drop"]] != most64*256 || ops[0x06] != most64 || end.End != halted || end.Used != mostUsed {
		t.Errorf("P27.1: %s, %s, %s", saidLines(lines), saidOps(ops), show(end))
	}
	s.Used -= 1 << 20
	follows(t, small{m, nil, s, 0}, 300)
	_, end = counted(t, small{m, nil, s, 0}, math.MaxInt64)
	paid(t, small{m, nil, s, 0}, end, lines, ops)
}

package meter_test

import (
	"math"
	"math/rand"
	"slices"
	"strings"
	"testing"

	"flagon/api"
	"flagon/fast"
	"flagon/frame"
	"flagon/meter"
	"flagon/slow"
)

// rests: of each pc how many instructions there are from it on in its segment, itself counted: chapter 12, said without the program.
func rests(code []api.Ins) []int {
	leaves := strings.Fields("loop if else end br brif brtable return trap call host")
	leads := make([]bool, len(code)+1)
	var open []string
	for pc, x := range code {
		word := wordOf[x.Op]
		switch {
		case word == "block" || word == "loop" || word == "if":
			open = append(open, word)
		case word == "end" && len(open) > 0:
			leads[pc] = open[len(open)-1] == "if" || leads[pc]
			open = open[:len(open)-1]
		}
		leads[pc+1] = slices.Contains(leaves, word)
	}
	list := make([]int, len(code))
	for start := 0; start < len(code); {
		end := start + 1
		for end < len(code) && !leads[end] && end-start < block {
			end++
		}
		for ; start < end; start++ {
			list[start] = end - start
		}
	}
	return list
}

// rest: how many instructions there are in the segment from where the last frame stands.
func rest(m api.Module, s api.State) int {
	f := s.Frames[len(s.Frames)-1]
	return rests(m.Functions[f.Function].Code)[f.Pc]
}

// pays: what the engine that pays for whole segments counts of a run along this way, with that fuel: chapter 19, said along the states of single steps. The way is long enough for the fuel, or the run ends.
func pays(m api.Module, way []api.State, fuel int64) meter.Counts {
	var c meter.Counts
	at, left := 0, fuel
	for way[at].End == suspended {
		count := int64(rest(m, way[at]))
		c.Entered++
		c.Asked++
		if left < count {
			for way[at].End == suspended {
				c.Asked++
				if left == 0 {
					return c
				}
				at, left, c.Paid, c.Executed = at+1, left-1, c.Paid+1, c.Executed+1
			}
			return c
		}
		c.Paid += count
		left -= count
		for done := int64(1); done <= count; done++ {
			at, c.Executed = at+1, c.Executed+1
			if way[at].End != suspended {
				c.Back = count - done
				return c
			}
		}
	}
	return c
}

// expected: what that engine counts of a run along this way.
func expected(engine int8, m api.Module, way []api.State, fuel int64) meter.Counts {
	if engine == byFast {
		return pays(m, way, fuel)
	}
	steps := min(fuel, int64(len(way)-1))
	c := meter.Counts{Executed: steps, Asked: steps, Paid: steps}
	if way[steps].End == suspended {
		c.Asked++
	}
	return c
}

// follows: what W4 says of the counts of a run.
func follows(t *testing.T, engine int8, ahead, behind api.State, fuel int64, c meter.Counts) {
	t.Helper()
	more := behind.Used - ahead.Used
	short := behind.Used < mostUsed
	switch {
	case c.Paid-c.Back != c.Executed, short && c.Executed != more, !short && c.Executed < more:
		t.Fatalf("W4: engine %d, fuel %d: %s, and Used %d behind %d", engine, fuel, told(c), behind.Used, ahead.Used)
	case c.Executed > fuel, behind.End == suspended && c.Executed != fuel:
		t.Fatalf("W4: engine %d, fuel %d: %s, %s", engine, fuel, told(c), show(behind))
	case engine == byFast && (c.Asked > c.Entered+block || c.Asked < c.Entered || c.Back >= block || c.Back < 0 || c.Entered < 1):
		t.Fatalf("W4: fuel %d: %s", fuel, told(c))
	}
}

// beside is meter.Run of both engines, whose state must be that of slow.Run and that of fast.Run, and one that may be, if it is no error; and what each engine counted.
func beside(t *testing.T, m api.Module, script []api.Reply, s api.State, fuel int64) (api.State, [2]meter.Counts, api.Errno) {
	t.Helper()
	var list [2]meter.Counts
	want, f := slow.Run(m, script, s, fuel)
	if two, g := fast.Run(m, script, s, fuel); g != f || !identical(two, want) {
		t.Fatalf("W1: fuel %d, from %s: %d, %s, not %d, %s", fuel, show(s), g, show(two), f, show(want))
	}
	for _, engine := range both() {
		got, c, e := meter.Run(engine, m, script, s, fuel)
		if e != f || !identical(got, want) {
			t.Fatalf("P20.1: engine %d, fuel %d, from %s: %d, %s, not %d, %s", engine, fuel, show(s), e, show(got), f, show(want))
		}
		if e != api.OK && c != (meter.Counts{}) {
			t.Fatalf("R2: engine %d, fuel %d: %s beside the error %d", engine, fuel, told(c), e)
		}
		if e == api.OK {
			follows(t, engine, s, got, fuel, c)
		}
		list[engine] = c
	}
	if f != api.OK {
		return want, list, f
	}
	if e, place := frame.Check(m, want); e != api.OK {
		t.Fatalf("P20.1: fuel %d, from %s: %d at %d of %s", fuel, show(s), e, place, show(want))
	}
	return want, list, f
}

// fuels: every one from 0 to the end of this way, and beyond, if the run ends; else the last one is left out, since the way goes no farther.
func fuels(way []api.State) []int64 {
	var list []int64
	for fuel := range len(way) - 1 {
		list = append(list, int64(fuel))
	}
	if last := len(way) - 1; way[last].End != suspended {
		for more := range 17 {
			list = append(list, int64(last+more))
		}
		list = append(list, 1<<31, math.MaxInt64)
	}
	return list
}

// along: is that state where single steps come with that fuel, and are these the counts that are expected there?
func along(t *testing.T, engine int8, m api.Module, way []api.State, fuel int64, got api.State, c meter.Counts) {
	t.Helper()
	if want := way[min(fuel, int64(len(way)-1))]; !identical(got, want) {
		t.Fatalf("P20.1: engine %d, fuel %d: %s, not %s", engine, fuel, show(got), show(want))
	}
	if want := expected(engine, m, way, fuel); c != want {
		t.Fatalf("P20.1: %s, engine %d, fuel %d from %s: %s, not %s", code(m, 0), engine, fuel, show(way[0]), told(c), told(want))
	}
	follows(t, engine, way[0], got, fuel, c)
}

// every: a run of either engine beside single steps, slow.Run and fast.Run, for every fuel from below 0 to its end and beyond; the states on its way.
func every(t *testing.T, x small) []api.State {
	t.Helper()
	way := single(t, x.m, x.script, x.s, x.steps)
	for _, fuel := range fuels(way) {
		got, list, _ := beside(t, x.m, x.script, x.s, fuel)
		for _, engine := range both() {
			along(t, engine, x.m, way, fuel, got, list[engine])
		}
	}
	for _, engine := range both() {
		nothing(t, engine, x.m, x.script, x.s, -1, api.ErrFuel)
		nothing(t, engine, x.m, x.script, x.s, -2, api.ErrFuel)
	}
	return way
}

// TestEvery: every fuel of small runs, to their ends and beyond, near the most that can be used, too.
func TestEvery(t *testing.T) {
	t.Parallel()
	for _, x := range append(smalls(), segmented()...) {
		way := every(t, x)
		if len(way) != x.steps+1 {
			t.Errorf("%s: %d steps, not %d", code(x.m, 0), len(way)-1, x.steps)
		}
		for _, back := range []int64{0, 1, 20} {
			every(t, late(x, back))
		}
	}
}

// TestFrom: small runs that begin at each state on their way: in the midst of a segment, at its last instruction, in a frame that was called.
func TestFrom(t *testing.T) {
	t.Parallel()
	places := map[int]int{}
	for _, x := range append(smalls(), segmented()...) {
		way := single(t, x.m, x.script, x.s, x.steps)
		for at, s := range way[:len(way)-1] {
			places[rest(x.m, s)]++
			for _, fuel := range fuels(way[at:]) {
				for _, engine := range both() {
					got, c := ran(t, engine, x.m, x.script, s, fuel)
					along(t, engine, x.m, way[at:], fuel, got, c)
				}
			}
		}
	}
	for count := 1; count <= block; count++ {
		if places[count] < 3 {
			t.Errorf("%d runs begin where %d instructions of a segment are left", places[count], count)
		}
	}
}

// TestDrawnRuns: runs of drawn modules from their beginnings, every fuel.
func TestDrawnRuns(t *testing.T) {
	t.Parallel()
	r := rand.New(rand.NewSource(201))
	ends := map[int8]int{}
	for range 120 {
		m := drawnModule(r)
		way := every(t, small{m, drawnScript(r, m), drawnBeginning(r, m), 60})
		ends[way[len(way)-1].End]++
	}
	for end := int8(suspended); end <= trapped; end++ {
		if ends[end] < 10 {
			t.Errorf("%d runs that stand as %d does", ends[end], end)
		}
	}
}

// TestDrawnStates: runs that go on from states that may be though none comes to them, every fuel.
func TestDrawnStates(t *testing.T) {
	t.Parallel()
	r := rand.New(rand.NewSource(202))
	deepest, traps, backs := 0, map[int8]int{}, map[int64]int{}
	for range 150 {
		m := drawnModule(r)
		script := drawnScript(r, m)
		for range 3 {
			s := drawnState(r, m)
			deepest = max(deepest, len(s.Frames))
			way := every(t, small{m, script, s, 1 + r.Intn(24)})
			traps[way[len(way)-1].Trap]++
			_, c := ran(t, byFast, m, script, s, 1000)
			backs[min(c.Back, 1)]++
		}
	}
	for _, trap := range []int8{trapOp, trapMemory, trapZero, trapFrames, trapHost} {
		if traps[trap] < 3 {
			t.Errorf("%d runs that trap by %d", traps[trap], trap)
		}
	}
	if deepest != most64 || backs[1] < 10 {
		t.Errorf("%d frames at most, %d runs of which something is given back", deepest, backs[1])
	}
}

// TestDrawnLong: runs with much fuel, and with all that can be given where they end.
func TestDrawnLong(t *testing.T) {
	t.Parallel()
	r := rand.New(rand.NewSource(203))
	far := 0
	for range 600 {
		m := drawnModule(r)
		script, s := drawnScript(r, m), drawnState(r, m)
		got, _, _ := beside(t, m, script, s, 2000+int64(r.Intn(2000)))
		if got.End != suspended {
			beside(t, m, script, s, math.MaxInt64)
			beside(t, m, script, s, 1<<31)
			continue
		}
		far++
		beside(t, m, script, got, int64(r.Intn(100)))
	}
	if far < 20 {
		t.Errorf("%d runs that go far", far)
	}
}

// TestDrawnErrors: what may not run, what may not be, what has ended, and fuel below 0, all of them drawn: the same errors as the engines'.
func TestDrawnErrors(t *testing.T) {
	t.Parallel()
	r := rand.New(rand.NewSource(205))
	errs := map[api.Errno]int{}
	for range 1500 {
		m := drawnModule(r)
		s := drawnState(r, m)
		damaged(r, &m, &s)
		for _, fuel := range []int64{-1, 0, 20} {
			_, _, e := beside(t, m, nil, s, fuel)
			errs[e]++
			nothing(t, []int8{-1, 2}[r.Intn(2)], m, nil, s, fuel, api.ErrArg)
		}
	}
	for _, e := range []api.Errno{api.OK, api.ErrFuel, api.ErrState, api.ErrDone, api.ErrOp, api.ErrIndex, api.ErrStack, api.ErrCut, api.ErrRange, api.ErrDead} {
		if errs[e] < 10 {
			t.Errorf("the error %d %d times: %v", e, errs[e], errs)
		}
	}
}

// TestAgain: a call's answer hangs on its arguments alone, whatever was called between: no count is carried over.
func TestAgain(t *testing.T) {
	r := rand.New(rand.NewSource(206))
	for range 100 {
		m := drawnModule(r)
		script, s := drawnScript(r, m), drawnState(r, m)
		for _, engine := range both() {
			first, c := ran(t, engine, m, script, s, 20)
			other := drawnModule(r)
			meter.Run(byFast, other, drawnScript(r, other), drawnState(r, other), 20)
			meter.Run(engine, m, nil, s, 7)
			meter.Run(engine, m, nil, s, -7)
			if again, d := ran(t, engine, m, script, s, 20); !identical(first, again) || c != d {
				t.Fatalf("R6: %s, %s, then %s, %s", show(first), told(c), show(again), told(d))
			}
		}
	}
}

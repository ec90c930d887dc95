package debug_test

import (
	"bytes"
	"fmt"
	"math"
	"math/rand"
	"slices"
	"testing"

	"flagon/api"
	"flagon/debug"
	"flagon/fast"
	"flagon/frame"
	"flagon/slow"
)

// writing are runs that store much: to one page, across the edge of two, into memory that grows, through calls and hosts.
func writing() []small {
	rounds := paged(1, 2, "w>", "", "loop:> get:0 get:0 w.store get:0 w.const:3 w.add tee:0 w.const:60 w.ltu brif:0 end end")
	edge := paged(2, 2, "w>", "", "loop:> get:0 l.const:-1 l.store:4000 get:0 l.const:0 l.store:4003 get:0 w.const:1 w.add tee:0 w.const:100 w.ltu brif:0 end end")
	grows := paged(0, 3, "w>", "", "loop:> w.const:1 grow drop get:0 get:0 w.store8 get:0 w.const:2047 w.add tee:0 br:0 end end")
	calls := paged(1, 1, "w>", "", "loop:> get:0 call:1 get:0 w.const:1 w.add tee:0 brif:0 end end")
	put(&calls, "w>", "", "get:0 get:0 host:0 w.store8 end")
	calls.Hosts = []int{kind(&calls, "w>w")}
	script := slices.Repeat([]api.Reply{{Results: numbers("7")}, {Results: numbers("7")}, {Results: numbers("0")}}, 4)
	return []small{
		{rounds, nil, begun(rounds, 0), 202},
		{edge, nil, begun(edge, 60), 300},
		{grows, nil, begun(grows, 1), 60},
		{calls, script, begun(calls, 3), 130},
	}
}

// runs are all that are gone through here.
func runs() []small {
	return slices.Concat(smalls(), segmented(), writing())
}

// far is a way of single steps that is long enough for all that is asked of x.
func far(t *testing.T, x small) []api.State {
	t.Helper()
	return single(t, x, x.steps+3)
}

// TestSteps: the state behind n steps is that of n steps, made at once or one by one, from New's state or from any other one on the way.
func TestSteps(t *testing.T) {
	for _, x := range runs() {
		way := far(t, x)
		for fuel := range len(way) {
			p := paired(t, x, way)
			p.run(t, fuel)
			p.run(t, 1)
			p.run(t, fuel/2)
		}
		p := paired(t, x, way)
		for range way {
			p.run(t, 1)
		}
	}
}

// TestBackAndOn: from each step to each one ahead of it, and on again.
func TestBackAndOn(t *testing.T) {
	t.Parallel()
	for _, x := range runs() {
		way := far(t, x)
		p := paired(t, x, way)
		for from := 0; from < len(way); from += 1 + len(way)/40 {
			for steps := 0; steps <= from+2; steps += 1 + len(way)/40 {
				p.run(t, max(from-p.at, 0))
				p.back(t, steps)
			}
			p.run(t, 3)
			p.back(t, len(way))
		}
	}
}

// TestEachBreak: a breakpoint at each instruction, alone, and with the one that was there first, and Back from each stop.
func TestEachBreak(t *testing.T) {
	t.Parallel()
	for _, x := range runs() {
		way := far(t, x)
		for function, f := range x.m.Functions {
			for pc := range f.Code {
				p := paired(t, x, way)
				p.put(t, 0, 0)
				p.put(t, function, pc)
				for n := 0; n < 12; n++ {
					p.run(t, len(way))
					p.back(t, n%3)
				}
				p.clear(t, 0, 0)
				p.run(t, len(way))
			}
		}
	}
}

// TestEachByte: a watch of each byte that the runs that store much may change.
func TestEachByte(t *testing.T) {
	t.Parallel()
	for _, x := range writing() {
		way := far(t, x)
		for at := range 3 * size {
			if at > 70 && at < 2000 || at > 4200 && at < 6100 || at > 8300 {
				continue
			}
			p := paired(t, x, way)
			p.watch(t, at, 1+at%3*at%7)
			for n := 0; n < 4; n++ {
				p.run(t, len(way))
			}
			p.back(t, 5)
			p.run(t, len(way))
		}
	}
}

// drawnPlace: one of a function and a pc, now and then of none.
func drawnPlace(r *rand.Rand, m api.Module) (function, pc int) {
	function = r.Intn(len(m.Functions))
	pc = r.Intn(len(m.Functions[function].Code))
	switch r.Intn(12) {
	case 0:
		pc = []int{-1, len(m.Functions[function].Code)}[r.Intn(2)]
	case 1:
		function = []int{-1, len(m.Functions)}[r.Intn(2)]
	}
	return function, pc
}

// changes: the bytes of the memory that change along a way, one for each time.
func changes(way []api.State) []int {
	var list []int
	for step := 1; step < len(way); step++ {
		for at, page := range way[step].Pages {
			if at < len(way[step-1].Pages) && bytes.Equal(page, way[step-1].Pages[at]) {
				continue
			}
			for k := range page {
				if byteAt(way[step], at*size+k) != byteAt(way[step-1], at*size+k) {
					list = append(list, at*size+k)
				}
			}
		}
	}
	return list
}

// drawnSpan: bytes near such as change, if there are any, or anywhere, or what may not be watched.
func drawnSpan(r *rand.Rand, changes []int) (at, n int) {
	if len(changes) > 0 && r.Intn(4) > 0 {
		return max(changes[r.Intn(len(changes))]-r.Intn(3), 0), 1 + r.Intn(4)
	}
	at = []int{r.Intn(40), size - 40 + r.Intn(60), r.Intn(3 * size), mostAt - r.Intn(3), mostAt + 1, -1}[r.Intn(6)]
	return at, []int{1, 64, 65, 0, 1 + r.Intn(64)}[r.Intn(5)]
}

// act does one thing that is drawn to both of a pair; why a run stopped, if it was one.
func (p *pair) act(t *testing.T, r *rand.Rand, changes []int) int8 {
	t.Helper()
	switch r.Intn(12) {
	case 0, 1:
		function, pc := drawnPlace(r, p.x.m)
		p.put(t, function, pc)
	case 2:
		function, pc := drawnPlace(r, p.x.m)
		p.clear(t, function, pc)
	case 3, 4:
		at, n := drawnSpan(r, changes)
		p.watch(t, at, n)
	case 5:
		p.unwatch()
	case 6:
		p.back(t, r.Intn(2*p.at+2))
	case 7:
		p.back(t, r.Intn(4))
	default:
		return p.run(t, []int{r.Intn(4), r.Intn(20), len(p.way)}[r.Intn(3)])
	}
	return 0
}

// TestDrawnRuns: debugs of all runs here and of drawn modules, to which drawn things are done.
func TestDrawnRuns(t *testing.T) {
	t.Parallel()
	r := rand.New(rand.NewSource(282))
	list := runs()
	for round := range 600 {
		m := drawnModule(r)
		x := small{m, drawnScript(r, m), drawnBeginning(r, m), 60}
		if round%2 == 1 {
			x.s = drawnState(r, m)
		}
		list = append(list, x)
	}
	whys := map[int8]int{}
	for _, x := range list {
		way := far(t, x)
		p, spots, rounds := paired(t, x, way), changes(way), 30
		if len(spots) > 0 {
			rounds = 400
		}
		for range rounds {
			whys[p.act(t, r, spots)]++
			if p.left() == 0 {
				p.back(t, r.Intn(p.at+1))
			}
		}
	}
	for why := int8(fuelled); why <= over; why++ {
		if whys[why] < 100 {
			t.Errorf("%d stops for the reason %d: %v", whys[why], why, whys)
		}
	}
}

// TestWatchedDrawn: debugs that watch where drawn modules store.
func TestWatchedDrawn(t *testing.T) {
	t.Parallel()
	r := rand.New(rand.NewSource(283))
	told := 0
	for range 2000 {
		m := drawnModule(r)
		x := small{m, drawnScript(r, m), drawnState(r, m), 60}
		way := far(t, x)
		spots := changes(way)
		if len(spots) == 0 {
			continue
		}
		p := paired(t, x, way)
		for range 8 {
			at, n := drawnSpan(r, spots)
			p.watch(t, at, n)
			if p.run(t, len(way)) == watched {
				told++
			}
			p.back(t, r.Intn(2*p.at+1))
		}
	}
	if told < 100 {
		t.Errorf("%d changes are told", told)
	}
}

// TestLate: near the most that can be used: Used stops there, and the steps are counted all the same.
func TestLate(t *testing.T) {
	t.Parallel()
	r := rand.New(rand.NewSource(284))
	for _, x := range runs() {
		for _, below := range []int64{0, 1, 2, 5, 20} {
			x := late(x, below)
			p := paired(t, x, far(t, x))
			for range 60 {
				p.act(t, r, changes(p.way))
			}
		}
	}
	m, s := counting()
	s.Used = mostUsed - 7
	d := bugged(t, m, nil, s)
	stops(t, d, 5, fuelled, mostUsed-2)
	stops(t, d, mostSteps-5, fuelled, mostUsed)
	stands(t, d, fmt.Sprint("suspended used ", mostUsed, " ", round(mostSteps)))
	refuses(t, d, 1, api.ErrMany)
	goes(t, d, 40000, 40000, mostUsed)
	stands(t, d, fmt.Sprint("suspended used ", mostUsed, " ", round(60000)))
	goes(t, d, 59997, 59997, mostUsed-4)
	stands(t, d, fmt.Sprint("suspended used ", mostUsed-4, " ", round(3)))
	goes(t, d, 4, 3, mostUsed-7)
	stops(t, d, mostSteps, fuelled, mostUsed)
}

// TestFarBack: to and fro between states that lie far from each other.
func TestFarBack(t *testing.T) {
	m, s := counting()
	d := bugged(t, m, nil, s)
	at := int64(0)
	for _, to := range []int64{mostSteps, 99999, 99998, 50000, 50001, 49999, 0, 1, 0, 1000, 999, 1001, 2000, 1998, mostSteps, 1, 77777, 77000, 76999, mostSteps, 0} {
		if to >= at {
			stops(t, d, to-at, fuelled, to)
		} else {
			goes(t, d, at-to, at-to, to)
		}
		at = to
		stands(t, d, fmt.Sprint("suspended used ", at, " ", round(at)))
	}
}

// TestEngines: either engine goes on from what a debug tells, to what the debug comes to itself; and it may be.
func TestEngines(t *testing.T) {
	t.Parallel()
	for _, x := range runs() {
		p := paired(t, x, far(t, x))
		p.put(t, 0, 1)
		p.watch(t, 0, 64)
		for n := range 30 {
			p.run(t, n)
			p.back(t, n%4)
			s := state(t, p.debug)
			if e, place := frame.Check(x.m, s); e != api.OK {
				t.Fatalf("R8: %d at %d of %s", e, place, show(s))
			}
			if s.End != suspended {
				continue
			}
			for _, more := range []int{0, 1, 5, 30} {
				want := p.way[min(p.at+more, len(p.way)-1)]
				if p.at+more >= len(p.way) && want.End == suspended {
					continue
				}
				one, _ := slow.Run(x.m, x.script, s, int64(more))
				other, _ := fast.Run(x.m, x.script, s, int64(more))
				if !identical(one, want) || !identical(other, want) {
					t.Fatalf("W6: from %d by %d: %s, not %s or %s", p.at, more, show(want), show(one), show(other))
				}
			}
		}
	}
}

// TestDebugOfDebug: a debug that begins at what another one came to goes on as that one does, and goes back to there at most.
func TestDebugOfDebug(t *testing.T) {
	for _, x := range runs() {
		way := far(t, x)
		for _, from := range []int{1, 2, 7, 9} {
			first := paired(t, x, way)
			if first.run(t, from) == over {
				continue
			}
			second := paired(t, small{x.m, x.script, state(t, first.debug), x.steps}, way[from:])
			second.run(t, 5)
			second.back(t, 9)
			second.run(t, len(way))
			second.back(t, 3)
			first.run(t, len(way))
		}
	}
}

// TestTwoDebugs: two debugs know nothing of each other, those of the same run neither.
func TestTwoDebugs(t *testing.T) {
	t.Parallel()
	r := rand.New(rand.NewSource(285))
	for _, x := range runs() {
		y := runs()[r.Intn(len(runs()))]
		list := []*pair{paired(t, x, far(t, x)), paired(t, x, far(t, x)), paired(t, y, far(t, y))}
		for range 80 {
			p := list[r.Intn(len(list))]
			p.act(t, r, changes(p.way))
			for _, other := range list {
				other.agrees(t)
			}
		}
	}
}

// TestAgain: what a debug answers hangs on what it was made of and what was done to it, on nothing else.
func TestAgain(t *testing.T) {
	r := rand.New(rand.NewSource(286))
	for range 60 {
		m := drawnModule(r)
		script, s := drawnScript(r, m), drawnState(r, m)
		one, other := bugged(t, m, script, s), bugged(t, m, script, s)
		for range 20 {
			function, pc := drawnPlace(r, m)
			at, n := drawnSpan(r, nil)
			steps := int64(r.Intn(20))
			first := trip(one, function, pc, at, n, steps)
			debug.New(drawnModule(r), nil, s)
			if second := trip(other, function, pc, at, n, steps); !sameAnswers(first, second) {
				t.Fatalf("R6: %v, then %v", first, second)
			}
		}
	}
}

// TestGreatest: a debug of the greatest state that may be, of some module.
func TestGreatest(t *testing.T) {
	const mostStack = 256
	var m api.Module
	m.First, m.Most = most64, most64
	m.Globals = slices.Repeat([]api.Global{{Letter: 'l', Mutable: true}}, most64)
	put(&m, ">", string(slices.Repeat([]byte("l"), most64)), "l.const:-1*256 call:0 drop*256 end")
	top := func(n int) []uint64 { return slices.Repeat([]uint64{math.MaxUint64}, n) }
	s := api.State{End: suspended, Used: mostUsed - 300, Replies: math.MaxInt64, Globals: top(most64)}
	for range most64 {
		s.Pages = append(s.Pages, slices.Repeat([]byte{255}, size))
		s.Frames = append(s.Frames, api.Frame{Pc: mostStack, Locals: top(most64), Stack: top(mostStack)})
	}
	s.Frames[most64-1].Pc++ // behind its call, or else it traps
	x := small{m, nil, s, 520}
	p := paired(t, x, single(t, x, x.steps))
	p.watch(t, most64*size-64, 64)
	p.put(t, 0, mostStack+1)
	for range 3 {
		p.run(t, 520)
		p.back(t, 100)
		p.run(t, 99)
	}
}

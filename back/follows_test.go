package back_test

import (
	"math"
	"math/rand"
	"slices"
	"testing"

	"flagon/api"
	"flagon/back"
	"flagon/fast"
	"flagon/frame"
	"flagon/slow"
)

// look is so much further than a run's end that a tape is told to go.
const look = 3

// far is a way of single steps that is long enough for all that is asked of x.
func far(t *testing.T, x small) []api.State {
	t.Helper()
	return single(t, x, x.steps+look)
}

// turns: ways on and back through so many steps: one by one, from the far end, by leaps, to and fro.
func turns(steps int) [][]int {
	var on, off, zigzag, leaps, home []int
	for n := range steps + 1 {
		on, off = append(on, n), append(off, steps-n)
		zigzag = append(zigzag, n, steps-n)
		leaps = append(leaps, n*7%(steps+1))
		home = append(home, n, 0, n)
	}
	return [][]int{on, off, zigzag, leaps, home}
}

// everies: each one from 1 on, up to more than the segments have instructions, and those around the last one of so many steps.
func everies(steps int) []int {
	list := []int{}
	for every := 1; every <= steps+2; every++ {
		if every <= 18 || every%16 == 0 || every >= steps-1 {
			list = append(list, every)
		}
	}
	return append(list, 1000)
}

// TestTurns: a tape of each every from 1 on, whatever ways it goes.
func TestTurns(t *testing.T) {
	t.Parallel()
	for _, x := range append(smalls(), segmented()...) {
		way := far(t, x)
		for at, every := range everies(len(way) - 1) {
			for n, turn := range turns(len(way) - 1) {
				if len(way) > 30 && (at+n)%3 > 0 { // of the long ones some
					continue
				}
				p := paired(t, x, way, every)
				for _, step := range turn {
					p.move(t, step)
				}
			}
		}
	}
}

// TestOneTape: all of these ways on a single tape, one behind the other; Kept never becomes less.
func TestOneTape(t *testing.T) {
	t.Parallel()
	for _, x := range append(smalls(), segmented()...) {
		way := far(t, x)
		for _, every := range []int{1, 2, 3, 4, 5, 8, 16, 17, len(way), 1000} {
			p := paired(t, x, way, every)
			before := p.tape.Kept()
			for _, turn := range turns(len(way) - 1) {
				for _, step := range turn {
					p.move(t, step)
					after := p.tape.Kept()
					if len(after) < len(before) || !slices.Equal(after[:len(before)], before) {
						t.Fatalf("P25.3: kept %v, then %v", before, after)
					}
					before = after
				}
			}
		}
	}
}

// TestPairsOfSteps: from each step to each other one, by a tape that was nowhere else.
func TestPairsOfSteps(t *testing.T) {
	t.Parallel()
	for _, x := range smalls() {
		way := far(t, x)
		for _, every := range []int{1, 4, 100} {
			for a := 0; a < len(way); a += 1 + len(way)/40 {
				for b := range way {
					p := paired(t, x, way, every)
					p.move(t, a)
					p.move(t, b)
				}
			}
		}
	}
}

// TestBeyond: far beyond the end, wherever the tape stood.
func TestBeyond(t *testing.T) {
	for _, x := range append(smalls(), segmented()...) {
		way := far(t, x)
		if way[len(way)-1].End == suspended {
			continue
		}
		for _, every := range everies(len(way) - 1) {
			p := paired(t, x, way, every)
			for step := range way {
				p.move(t, step)
				p.move(t, every*mostBack-step)
				p.move(t, len(way)-1-step)
			}
		}
	}
}

// TestLate: near the most that can be used.
func TestLate(t *testing.T) {
	t.Parallel()
	for _, x := range append(smalls(), segmented()...) {
		for _, below := range []int64{0, 1, 2, 5, 20} {
			x := late(x, below)
			way := far(t, x)
			for _, every := range []int{1, 5, 1000} {
				p := paired(t, x, way, every)
				for _, turn := range turns(len(way) - 1)[2:4] {
					for _, step := range turn {
						p.move(t, step)
					}
				}
			}
		}
	}
}

// follows: is what a tape comes to what either engine comes to from its beginning, and may it be?
func follows(t *testing.T, x small, tape *back.Tape, to int64) {
	t.Helper()
	got := went(t, tape, to)
	one, e := slow.Run(x.m, x.script, x.s, to)
	other, e2 := fast.Run(x.m, x.script, x.s, to)
	if e != api.OK || e2 != api.OK || !identical(got, one) || !identical(got, other) {
		t.Fatalf("W7: Go(%d): %s, not %d, %s, nor %d, %s", to, show(got), e, show(one), e2, show(other))
	}
	if e, place := frame.Check(x.m, got); e != api.OK {
		t.Fatalf("W7: Go(%d): %d at %d of %s", to, e, place, show(got))
	}
	if at := tape.At(); at > to || got.End == suspended && at != to || x.s.Used < mostUsed/2 && got.Used != x.s.Used+at {
		t.Fatalf("P25.3: Go(%d): at %d: %s", to, at, show(got))
	}
}

// drawnStep: one up to that one, often near a multiple of every, near where the tape stands, or at an end.
func drawnStep(r *rand.Rand, p *pair, most int) int {
	near := []int{r.Intn(most + 1), p.every*r.Intn(most/p.every+1) + r.Intn(3) - 1, p.at + r.Intn(3) - 1, p.far + r.Intn(3) - 1, 0, most}[r.Intn(6)]
	return min(max(near, 0), most)
}

// TestDrawnRuns: tapes of drawn modules, along drawn ways, with a few Gos between that are refused.
func TestDrawnRuns(t *testing.T) {
	t.Parallel()
	r := rand.New(rand.NewSource(252))
	const most = 60
	ends := map[int8]int{}
	for round := range 400 {
		m := drawnModule(r)
		x := small{m, drawnScript(r, m), drawnBeginning(r, m), most}
		if round%2 == 1 {
			x.s = drawnState(r, m)
		}
		p := paired(t, x, single(t, x, most), []int{1, 2, 3, 1 + r.Intn(20), 1 + r.Intn(100)}[r.Intn(5)])
		for range 12 {
			step := drawnStep(r, p, most)
			p.move(t, step)
			ends[p.way[p.at].End]++
			if r.Intn(4) == 0 {
				follows(t, x, p.tape, int64(step))
			}
			if r.Intn(4) == 0 {
				stays(t, p.tape, -1-r.Int63(), api.ErrArg)
				stays(t, p.tape, int64(p.every)*mostBack+1+r.Int63n(1<<40), api.ErrMany)
			}
		}
	}
	for end := int8(suspended); end <= trapped; end++ {
		if ends[end] < 100 {
			t.Errorf("%d states that stand as %d does", ends[end], end)
		}
	}
}

// TestEngines: both engines go on from what a tape tells, to what the tape comes to itself.
func TestEngines(t *testing.T) {
	t.Parallel()
	for _, x := range append(smalls(), segmented()...) {
		tape := taped(t, x.m, x.script, x.s, 6)
		for _, to := range []int64{0, 1, 5, 6, 7, 12, 1, 20, 3} {
			follows(t, x, tape, to)
			s := went(t, tape, to)
			if s.End != suspended {
				continue
			}
			for _, more := range []int64{0, 1, 5, 30} {
				want := went(t, tape, to+more)
				one, _ := slow.Run(x.m, x.script, s, more)
				other, _ := fast.Run(x.m, x.script, s, more)
				if !identical(one, want) || !identical(other, want) {
					t.Fatalf("W7: from %d by %d: %s, not %s or %s", to, more, show(want), show(one), show(other))
				}
			}
		}
	}
}

// TestTapeOfTape: a tape that begins at what another one came to goes on as that one does.
func TestTapeOfTape(t *testing.T) {
	for _, x := range append(smalls(), segmented()...) {
		way := far(t, x)
		first := paired(t, x, way, 4)
		for _, from := range []int{9, 1, 2, 7} {
			first.move(t, from)
			s := way[first.at]
			if s.End != suspended {
				nothing(t, x.m, x.script, s, 4, api.ErrDone)
				continue
			}
			second := paired(t, small{x.m, x.script, went(t, first.tape, int64(from)), x.steps}, way[from:], 3)
			for _, step := range turns(len(way) - 1 - from)[2] {
				second.move(t, step)
			}
		}
	}
}

// TestTwoTapes: two tapes know nothing of each other, those of the same run neither.
func TestTwoTapes(t *testing.T) {
	r := rand.New(rand.NewSource(253))
	for _, x := range append(smalls(), segmented()...) {
		way := far(t, x)
		y := smalls()[r.Intn(len(smalls()))]
		list := []*pair{paired(t, x, way, 3), paired(t, x, way, 3), paired(t, x, way, 5), paired(t, y, far(t, y), 3)}
		for range 60 {
			p := list[r.Intn(len(list))]
			p.move(t, r.Intn(len(p.way)))
			for _, other := range list {
				other.agrees(t)
			}
		}
	}
}

// TestAgain: what a tape answers hangs on what it was made of and was told, on nothing else.
func TestAgain(t *testing.T) {
	r := rand.New(rand.NewSource(254))
	for range 100 {
		m := drawnModule(r)
		script, s, every := drawnScript(r, m), drawnState(r, m), 1+r.Intn(9)
		one, other := taped(t, m, script, s, every), taped(t, m, script, s, every)
		for range 20 {
			to := int64(r.Intn(100))
			a := went(t, one, to)
			back.New(drawnModule(r), nil, s, every)
			if b := went(t, other, to); !identical(a, b) || one.At() != other.At() || !slices.Equal(one.Kept(), other.Kept()) {
				t.Fatalf("R6: Go(%d): %s, then %s", to, show(a), show(b))
			}
		}
	}
}

// TestGreatest: a tape of the greatest state that may be, of some module.
func TestGreatest(t *testing.T) {
	const mostStack = 256
	var m api.Module
	m.First, m.Most = most64, most64
	m.Globals = slices.Repeat([]api.Global{{Letter: 'l', Mutable: true}}, most64)
	put(&m, ">", string(slices.Repeat([]byte("l"), most64)), "l.const:-1*256 call:0 drop*256 end")
	top := func(n int) []uint64 { return slices.Repeat([]uint64{math.MaxUint64}, n) }
	s := api.State{End: suspended, Used: mostUsed - 300, Replies: math.MaxInt64, Globals: top(most64)}
	for range most64 {
		s.Pages = append(s.Pages, slices.Repeat([]byte{255}, size))
		s.Frames = append(s.Frames, api.Frame{Pc: mostStack, Locals: top(most64), Stack: top(mostStack)})
	}
	s.Frames[most64-1].Pc++ // behind its call, or else it traps
	x := small{m, nil, s, 520}
	p := paired(t, x, single(t, x, x.steps), 50)
	for _, step := range []int{0, 1, 49, 50, 51, 520, 257, 258, 300, 299, 0, 450} {
		p.move(t, step)
	}
}

package cuts_test

import (
	"math"
	"math/rand"
	"slices"
	"testing"

	"flagon/api"
	"flagon/cuts"
	"flagon/fast"
	"flagon/frame"
	"flagon/slow"
)

// sum: the fuels of a plan together, as far as that fits.
func sum(along []cuts.Slice) int64 {
	all := int64(0)
	for _, x := range along {
		all += min(x.Fuel, math.MaxInt64-all)
	}
	return all
}

// follows: what the chapter says of what a plan comes to: the state is that of one run with the sum of the fuels on either engine; all slices but the last one made just as many steps as they had fuel, and all of them together are what Used became more by.
func follows(t *testing.T, x small, along []cuts.Slice, got api.State, made []int64) {
	t.Helper()
	one, e := slow.Run(x.m, x.script, x.s, sum(along))
	other, e2 := fast.Run(x.m, x.script, x.s, sum(along))
	if e != api.OK || e2 != api.OK || !identical(got, one) || !identical(got, other) {
		t.Fatalf("W2: plan %.300v: %s, not %d, %s, nor %d, %s", along, show(got), e, show(one), e2, show(other))
	}
	if e, place := frame.Check(x.m, got); e != api.OK {
		t.Fatalf("P24.1: plan %.300v: %d at %d of %s", along, e, place, show(got))
	}
	if len(made) > len(along) || len(made) < len(along) && got.End == suspended {
		t.Fatalf("P24.1: plan %.300v: %v, %s", along, made, show(got))
	}
	for at, steps := range made {
		if whole := at < len(made)-1 || got.End == suspended; steps > along[at].Fuel || steps < 0 || whole && steps != along[at].Fuel {
			t.Fatalf("P24.1: plan %.300v: the slice %d made %d steps", along, at, steps)
		}
	}
	if all := total(made); got.Used < mostUsed && all != got.Used-x.s.Used || all < got.Used-x.s.Used {
		t.Fatalf("W2: plan %.300v: %v, and Used %d behind %d", along, made, got.Used, x.s.Used)
	}
}

// holds: agrees, and what follows.
func holds(t *testing.T, x small, way []api.State, along []cuts.Slice) {
	t.Helper()
	got, made := agrees(t, x, way, along)
	follows(t, x, along, got, made)
}

// far is a way of single steps that is long enough for all plans that are asked of x.
func far(t *testing.T, x small, more int) []api.State {
	t.Helper()
	return single(t, x.m, x.script, x.s, x.steps+more)
}

// TestSplits: every split of small runs into two and into three slices, and beyond their ends; engines mixed, saved between or not.
func TestSplits(t *testing.T) {
	t.Parallel()
	for _, x := range append(smalls(), segmented()...) {
		way := far(t, x, 40)
		for f := range int64(min(x.steps, 40) + 2) {
			for _, g := range []int64{0, 1, 2, 16} {
				for _, along := range mixes([]int64{f, g}) {
					holds(t, x, way, along)
				}
				holds(t, x, way, []cuts.Slice{{Fuel: f, Engine: byFast, Save: true}, {Fuel: g}, {Fuel: 3, Engine: byFast}})
			}
		}
	}
}

// TestCompositions: every way to cut the first eight steps of small runs into slices from 1 on.
func TestCompositions(t *testing.T) {
	t.Parallel()
	for n, x := range append(smalls(), segmented()...) {
		way := far(t, x, 8)
		for cutting := range 1 << 7 {
			fuels := []int64{1}
			for at := range 7 {
				if cutting>>at&1 == 0 {
					fuels[len(fuels)-1]++
				} else {
					fuels = append(fuels, 1)
				}
			}
			list := mixes(fuels)
			for at := range 4 {
				holds(t, x, way, list[(at*31+cutting*7+n)%len(list)])
			}
		}
	}
}

// TestEverySlice: small runs in slices of one step each, of two, and of more, to their ends.
func TestEverySlice(t *testing.T) {
	t.Parallel()
	for _, x := range append(smalls(), segmented()...) {
		way := far(t, x, 20)
		for fuel := int64(1); fuel <= 17; fuel++ {
			count := (x.steps + 2) / int(fuel)
			for _, along := range few(evenly(count, fuel)) {
				holds(t, x, way, along)
			}
		}
	}
}

// TestHighSums: what fits no int64 as a sum, and what just does: of runs that end.
func TestHighSums(t *testing.T) {
	for _, x := range append(smalls(), segmented()...) {
		way := far(t, x, 1)
		if way[len(way)-1].End == suspended {
			continue
		}
		for _, fuels := range [][]int64{{math.MaxInt64}, {math.MaxInt64, math.MaxInt64}, {1, math.MaxInt64 - 1}, {1, math.MaxInt64}, {2, 0, math.MaxInt64, math.MaxInt64}, {1, 1 << 62, 1 << 62}, {0, mostUsed, 5}} {
			for _, along := range few(fuels) {
				holds(t, x, way, along)
			}
		}
	}
}

// TestLate: near the most that can be used.
func TestLate(t *testing.T) {
	t.Parallel()
	for _, x := range append(smalls(), segmented()...) {
		for _, back := range []int64{0, 1, 2, 5, 20} {
			x := late(x, back)
			way := far(t, x, 20)
			for _, fuels := range [][]int64{{1, 1, 1, 1}, {2, 0, 3, 9}, {5, 20, int64(x.steps) - 10}} {
				if fuels[len(fuels)-1] < 0 {
					continue
				}
				for _, along := range few(fuels) {
					holds(t, x, way, along)
				}
			}
		}
	}
}

// drawnPlan: slices of any engines, many of little fuel, some saved, of so many steps in all at most.
func drawnPlan(r *rand.Rand, most int64) []cuts.Slice {
	var along []cuts.Slice
	few := []int{1, 3, 10, 60}[r.Intn(4)]
	for range r.Intn(12) {
		fuel := min(int64(r.Intn(few)), most)
		if r.Intn(5) == 0 {
			fuel = 0
		}
		most -= fuel
		along = append(along, cuts.Slice{Fuel: fuel, Engine: int8(r.Intn(2)), Save: r.Intn(2) == 0})
	}
	return along
}

// TestDrawnRuns: runs of drawn modules from their beginnings, along drawn plans.
func TestDrawnRuns(t *testing.T) {
	t.Parallel()
	r := rand.New(rand.NewSource(241))
	ends, short := map[int8]int{}, map[int8]int{}
	const most = 80
	for range 250 {
		m := drawnModule(r)
		x := small{m, drawnScript(r, m), drawnBeginning(r, m), most}
		way := far(t, x, 0)
		for range 12 {
			along := drawnPlan(r, most)
			got, made := agrees(t, x, way, along)
			follows(t, x, along, got, made)
			ends[got.End]++
			if len(made) < len(along) {
				short[got.End]++
			}
		}
	}
	for end := int8(suspended); end <= trapped; end++ {
		if ends[end] < 100 || end != suspended && short[end] < 50 {
			t.Errorf("%d runs that stand as %d does, %d of them in the midst of their plan", ends[end], end, short[end])
		}
	}
}

// TestDrawnStates: runs that go on from states that may be though none comes to them, along drawn plans.
func TestDrawnStates(t *testing.T) {
	t.Parallel()
	r := rand.New(rand.NewSource(242))
	deepest, traps := 0, map[int8]int{}
	const most = 50
	for range 250 {
		m := drawnModule(r)
		x := small{m, drawnScript(r, m), drawnState(r, m), most}
		deepest = max(deepest, len(x.s.Frames))
		way := far(t, x, 0)
		for range 6 {
			along := drawnPlan(r, most)
			got, made := agrees(t, x, way, along)
			follows(t, x, along, got, made)
			traps[got.Trap]++
		}
	}
	for _, trap := range []int8{trapOp, trapMemory, trapZero, trapFrames, trapHost} {
		if traps[trap] < 3 {
			t.Errorf("%d runs that trap by %d", traps[trap], trap)
		}
	}
	if deepest != most64 {
		t.Errorf("%d frames at most", deepest)
	}
}

// TestDrawnPlans: a plan in two plans, the second one of which goes on from the first one's state, is the plan of both.
func TestDrawnPlans(t *testing.T) {
	t.Parallel()
	r := rand.New(rand.NewSource(243))
	for range 400 {
		m := drawnModule(r)
		script, s := drawnScript(r, m), drawnState(r, m)
		first, second := drawnPlan(r, 200), drawnPlan(r, 200)
		mid, made := ran(t, m, script, s, first)
		want, all := ran(t, m, script, s, slices.Concat(first, second))
		if mid.End != suspended {
			nothing(t, m, script, mid, second, api.ErrDone)
			if !identical(mid, want) || !slices.Equal(made, all) {
				t.Fatalf("W2: plan %v: %s, %v, not %s, %v", first, show(want), all, show(mid), made)
			}
			continue
		}
		got, more := ran(t, m, script, mid, second)
		if !identical(got, want) || !slices.Equal(slices.Concat(made, more), all) {
			t.Fatalf("W2: plan %v and %v: %s, %v and %v, not %s, %v", first, second, show(got), made, more, show(want), all)
		}
	}
}

// TestDrawnErrors: what may not run, what may not be, what has ended, and fuels below 0, all of them drawn: slow.Run's error with the fuel 0 ahead of that of the fuels.
func TestDrawnErrors(t *testing.T) {
	t.Parallel()
	r := rand.New(rand.NewSource(244))
	errs := map[api.Errno]int{}
	for range 1500 {
		m := drawnModule(r)
		s := drawnState(r, m)
		damaged(r, &m, &s)
		along := drawnPlan(r, 50)
		if r.Intn(3) == 0 && len(along) > 0 {
			along[r.Intn(len(along))].Fuel = -1 - r.Int63()
		}
		_, want := slow.Run(m, nil, s, 0)
		if want == api.OK && slices.ContainsFunc(along, func(x cuts.Slice) bool { return x.Fuel < 0 }) {
			want = api.ErrFuel
		}
		errs[want]++
		if want != api.OK {
			nothing(t, m, nil, s, along, want)
		} else {
			got, made := ran(t, m, nil, s, along)
			follows(t, small{m: m, s: s}, along, got, made)
		}
		if len(along) > 0 {
			along[r.Intn(len(along))].Engine = []int8{-1, 2}[r.Intn(2)]
			nothing(t, m, nil, s, along, api.ErrArg)
		}
	}
	for _, e := range []api.Errno{api.OK, api.ErrFuel, api.ErrState, api.ErrDone, api.ErrOp, api.ErrIndex, api.ErrStack, api.ErrCut, api.ErrRange, api.ErrDead} {
		if errs[e] < 5 {
			t.Errorf("the error %d %d times: %v", e, errs[e], errs)
		}
	}
}

// TestAgain: a call's answer hangs on its arguments alone, whatever was called between.
func TestAgain(t *testing.T) {
	r := rand.New(rand.NewSource(245))
	for range 150 {
		m := drawnModule(r)
		script, s, along := drawnScript(r, m), drawnState(r, m), drawnPlan(r, 100)
		first, made := ran(t, m, script, s, along)
		other := drawnModule(r)
		cuts.Run(other, drawnScript(r, other), drawnState(r, other), drawnPlan(r, 100))
		cuts.Run(m, nil, s, drawnPlan(r, 100))
		cuts.Run(m, nil, s, plan("1s -1f"))
		if again, more := ran(t, m, script, s, along); !identical(first, again) || !slices.Equal(made, more) {
			t.Fatalf("R6: %s, %v, then %s, %v", show(first), made, show(again), more)
		}
	}
}

// TestGreatest: the greatest state that may be, of some module, is cut, written and read as any other one.
func TestGreatest(t *testing.T) {
	const mostStack = 256
	var m api.Module
	m.First, m.Most = most64, most64
	m.Globals = slices.Repeat([]api.Global{{Letter: 'l', Mutable: true}}, most64)
	put(&m, ">", string(slices.Repeat([]byte("l"), most64)), "l.const:-1*256 call:0 drop*256 end")
	top := func(n int) []uint64 { return slices.Repeat([]uint64{math.MaxUint64}, n) }
	s := api.State{End: suspended, Used: 7, Replies: math.MaxInt64, Globals: top(most64)}
	for range most64 {
		s.Pages = append(s.Pages, slices.Repeat([]byte{255}, size))
		s.Frames = append(s.Frames, api.Frame{Pc: mostStack, Locals: top(most64), Stack: top(mostStack)})
	}
	s.Frames[most64-1].Pc++ // behind its call, or else it traps
	x := small{m, nil, s, 300}
	way := far(t, x, 0)
	for _, along := range few([]int64{0, 1, 17, 256}) {
		agrees(t, x, way, along)
	}
}

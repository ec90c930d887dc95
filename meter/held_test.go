package meter_test

import (
	"bytes"
	"fmt"
	"math"
	"slices"
	"testing"

	"flagon/api"
	"flagon/meter"
	"flagon/step"
)

// The limits and numbers of the document, told once more here so that those of the program are tested, too.
const (
	suspended = 1
	halted    = 2
	trapped   = 3
	size      = 4096
	most64    = 64
	high      = 1 << 32 // the least number that is no w
	mostUsed  = 1 << 62

	bySlow = int8(0)
	byFast = int8(1)

	block = 16 // the most instructions of a segment

	trapOp     = 1
	trapMemory = 2
	trapZero   = 3
	trapRange  = 4
	trapFrames = 5
	trapHost   = 6
)

// edges are numbers at the ends of both letters' ranges.
func edges() []uint64 {
	return []uint64{0, 1, 2, 7, 31, 32, 33, 63, 64, 1<<31 - 1, 1 << 31, 1<<31 + 1, high - 2, high - 1, high, high + 1, math.MaxInt64, 1 << 63, 1<<63 + 1, math.MaxUint64 - 1, math.MaxUint64}
}

func cloned(s api.State) api.State {
	s.Results, s.Globals, s.Pages, s.Frames = slices.Clone(s.Results), slices.Clone(s.Globals), slices.Clone(s.Pages), slices.Clone(s.Frames)
	for at := range s.Pages {
		s.Pages[at] = slices.Clone(s.Pages[at])
	}
	for at := range s.Frames {
		f := &s.Frames[at]
		f.Locals, f.Stack = slices.Clone(f.Locals), slices.Clone(f.Stack)
	}
	return s
}

func sameFrame(a, b api.Frame) bool {
	return a.Function == b.Function && a.Pc == b.Pc && slices.Equal(a.Locals, b.Locals) && slices.Equal(a.Stack, b.Stack)
}

// identical: frame.Equal, said without the program.
func identical(a, b api.State) bool {
	return a.End == b.End && a.Trap == b.Trap && a.Used == b.Used && a.Replies == b.Replies && slices.Equal(a.Results, b.Results) &&
		slices.Equal(a.Globals, b.Globals) && slices.EqualFunc(a.Pages, b.Pages, bytes.Equal) && slices.EqualFunc(a.Frames, b.Frames, sameFrame)
}

// small is a run that ends behind so many steps, or is looked at for so many of them.
type small struct {
	m      api.Module
	script []api.Reply
	s      api.State
	steps  int
}

// smalls are short runs of each kind: halting, trapping, endless; with calls, hosts, a memory.
func smalls() []small {
	five := paged(1, 2, ">w", "", "w.const:5 end")
	loop := of("w>w", "", "loop:> get:0 w.const:1 w.sub tee:0 brif:0 end w.const:7 end")
	fact := of("l>l", "", "get:0 l.eqz if:>l l.const:1 else get:0 get:0 l.const:1 l.sub call:0 l.mul end end")
	round := paged(0, 3, ">", "", "loop:> w.const:1 grow drop w.const:4095 w.const:9 w.store8 br:0 end end")
	trap := of(">w", "", "w.const:1 w.const:0 w.divs end")
	endless := of(">", "", "call:0 end")
	return []small{
		{five, nil, begun(five), 2},
		{loop, nil, begun(loop, 3), 19},
		{fact, nil, begun(fact, 3), 40},
		{round, nil, begun(round), 30},
		{trap, nil, begun(trap), 3},
		{endless, nil, begun(endless), 64},
		{rich(), []api.Reply{{}, {Results: []uint64{5}}}, begun(rich(), 7), 22},
		{rich(), []api.Reply{{}, {Trap: true}}, begun(rich(), 7), 16},
		{rich(), nil, begun(rich(), 7), 13},
		{rich(), nil, deep(), 9},
	}
}

// late is the same run near the most that can be used.
func late(x small, back int64) small {
	x.s = cloned(x.s)
	x.s.Used = mostUsed - back
	return x
}

// rich is a module of two functions, with hosts, globals of each kind and a memory.
func rich() api.Module {
	m := api.Module{First: 1, Most: 3, Globals: []api.Global{{Letter: 'w', Mutable: true, Value: 5}, {Letter: 'l', Value: math.MaxUint64}, {Letter: 'l', Mutable: true, Value: 9}}}
	m.Hosts = []int{kind(&m, "w>l"), kind(&m, ">")}
	put(&m, "w>wl", "l", "get:0 call:1 host:0 set:1 get:0 w.const:1 w.add get:1 end")
	put(&m, "w>w", "", "get:0 gget:2 gset:2 gset:0 w.const:16 l.const:-2 l.store:4 w.const:1 grow drop host:1 gget:0 end")
	return m
}

// deep is a state of rich in which function 0 has called function 1.
func deep() api.State {
	return api.State{
		Frames:  []api.Frame{{Pc: 1, Locals: []uint64{3, 4}}, {Function: 1, Pc: 2, Locals: []uint64{7}, Stack: []uint64{7, 8}}},
		Globals: []uint64{high - 1, math.MaxUint64, 1 << 63},
		Pages:   blank(2),
		Replies: 2,
		End:     suspended,
		Used:    77,
	}
}

// ended is a state of rich that has ended so.
func ended(end int8) api.State {
	s := deep()
	s.Frames, s.End = nil, end
	if end == trapped {
		s.Trap = trapMemory
	} else {
		s.Results = []uint64{math.MaxUint64, 0}
	}
	return s
}

// single is what so many steps, one by one, come to, or fewer, if the run ends; and each state on the way, the first one too.
func single(t *testing.T, m api.Module, script []api.Reply, s api.State, most int) []api.State {
	t.Helper()
	way := []api.State{s}
	for len(way) <= most && s.End == suspended {
		var e api.Errno
		if s, e = step.Step(m, script, s); e != api.OK {
			t.Fatalf("a step: %d", e)
		}
		way = append(way, s)
	}
	return way
}

// both: the engines that there are.
func both() []int8 {
	return []int8{bySlow, byFast}
}

// ran is meter.Run where it may not refuse.
func ran(t *testing.T, engine int8, m api.Module, script []api.Reply, s api.State, fuel int64) (api.State, meter.Counts) {
	t.Helper()
	got, c, e := meter.Run(engine, m, script, s, fuel)
	if e != api.OK {
		t.Fatalf("P20.1: %s, engine %d, fuel %d: %d", code(m, 0), engine, fuel, e)
	}
	return got, c
}

// told: counts in the order of the chapter's examples.
func told(c meter.Counts) string {
	return fmt.Sprint(c.Executed, " ", c.Asked, " ", c.Paid, " ", c.Back, " ", c.Entered)
}

// counts: does a run with that fuel count so, as it is told by hand?
func counts(t *testing.T, engine int8, m api.Module, script []api.Reply, s api.State, fuel int64, want string) {
	t.Helper()
	if _, c := ran(t, engine, m, script, s, fuel); told(c) != want {
		t.Errorf("P20.1: %s, engine %d, fuel %d: %s, not %s", code(m, 0), engine, fuel, told(c), want)
	}
}

// slowly: what the engine that pays one by one counts of so many instructions executed.
func slowly(executed int64, suspended bool) string {
	asked := executed
	if suspended {
		asked++
	}
	return fmt.Sprint(executed, " ", asked, " ", executed, " 0 0")
}

// comes: does a run of either engine with that fuel come there, as it is told by hand?
func comes(t *testing.T, m api.Module, script []api.Reply, s api.State, fuel int64, want string) {
	t.Helper()
	for _, engine := range both() {
		if got, _ := ran(t, engine, m, script, s, fuel); show(got) != want {
			t.Errorf("P20.1: %s, engine %d, fuel %d: %s, not %s", code(m, 0), engine, fuel, show(got), want)
		}
	}
}

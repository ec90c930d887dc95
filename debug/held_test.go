package debug_test

import (
	"bytes"
	"fmt"
	"math"
	"slices"
	"testing"

	"flagon/api"
	"flagon/debug"
	"flagon/step"
)

// The limits and numbers of the document, told once more here so that those of the program are tested, too.
const (
	suspended = 1
	halted    = 2
	trapped   = 3
	size      = 4096
	most64    = 64
	high      = 1 << 32 // the least number that is no w
	mostUsed  = 1 << 62
	mostSteps = 100000
	mostAt    = 1 << 32
	mostBytes = 64

	fuelled = 1 // why a run stopped
	broke   = 2
	watched = 3
	over    = 4

	trapOp     = 1
	trapMemory = 2
	trapZero   = 3
	trapRange  = 4
	trapFrames = 5
	trapHost   = 6
)

// edges are numbers at the ends of both letters' ranges.
func edges() []uint64 {
	return []uint64{0, 1, 2, 7, 31, 32, 33, 63, 64, 1<<31 - 1, 1 << 31, 1<<31 + 1, high - 2, high - 1, high, high + 1, math.MaxInt64, 1 << 63, 1<<63 + 1, math.MaxUint64 - 1, math.MaxUint64}
}

func cloned(s api.State) api.State {
	s.Results, s.Globals, s.Pages, s.Frames = slices.Clone(s.Results), slices.Clone(s.Globals), slices.Clone(s.Pages), slices.Clone(s.Frames)
	for at := range s.Pages {
		s.Pages[at] = slices.Clone(s.Pages[at])
	}
	for at := range s.Frames {
		f := &s.Frames[at]
		f.Locals, f.Stack = slices.Clone(f.Locals), slices.Clone(f.Stack)
	}
	return s
}

func sameFrame(a, b api.Frame) bool {
	return a.Function == b.Function && a.Pc == b.Pc && slices.Equal(a.Locals, b.Locals) && slices.Equal(a.Stack, b.Stack)
}

// identical: frame.Equal, said without the program.
func identical(a, b api.State) bool {
	return a.End == b.End && a.Trap == b.Trap && a.Used == b.Used && a.Replies == b.Replies && slices.Equal(a.Results, b.Results) &&
		slices.Equal(a.Globals, b.Globals) && slices.EqualFunc(a.Pages, b.Pages, bytes.Equal) && slices.EqualFunc(a.Frames, b.Frames, sameFrame)
}

// small is a run that ends behind so many steps, or is looked at for so many of them.
type small struct {
	m      api.Module
	script []api.Reply
	s      api.State
	steps  int
}

// smalls are short runs of each kind: halting, trapping, endless; with calls, hosts, a memory.
func smalls() []small {
	five := paged(1, 2, ">w", "", "w.const:5 end")
	loop := of("w>w", "", "loop:> get:0 w.const:1 w.sub tee:0 brif:0 end w.const:7 end")
	fact := of("l>l", "", "get:0 l.eqz if:>l l.const:1 else get:0 get:0 l.const:1 l.sub call:0 l.mul end end")
	round := paged(0, 3, ">", "", "loop:> w.const:1 grow drop w.const:4095 w.const:9 w.store8 br:0 end end")
	trap := of(">w", "", "w.const:1 w.const:0 w.divs end")
	endless := of(">", "", "call:0 end")
	return []small{
		{five, nil, begun(five), 2},
		{loop, nil, begun(loop, 3), 19},
		{fact, nil, begun(fact, 3), 40},
		{round, nil, begun(round), 30},
		{trap, nil, begun(trap), 3},
		{endless, nil, begun(endless), 64},
		{rich(), []api.Reply{{}, {Results: []uint64{5}}}, begun(rich(), 7), 22},
		{rich(), []api.Reply{{}, {Trap: true}}, begun(rich(), 7), 16},
		{rich(), nil, begun(rich(), 7), 13},
		{rich(), nil, deep(), 9},
	}
}

// late is the same run near the most that can be used.
func late(x small, below int64) small {
	x.s = cloned(x.s)
	x.s.Used = mostUsed - below
	return x
}

// rich is a module of two functions, with hosts, globals of each kind and a memory.
func rich() api.Module {
	m := api.Module{First: 1, Most: 3, Globals: []api.Global{{Letter: 'w', Mutable: true, Value: 5}, {Letter: 'l', Value: math.MaxUint64}, {Letter: 'l', Mutable: true, Value: 9}}}
	m.Hosts = []int{kind(&m, "w>l"), kind(&m, ">")}
	put(&m, "w>wl", "l", "get:0 call:1 host:0 set:1 get:0 w.const:1 w.add get:1 end")
	put(&m, "w>w", "", "get:0 gget:2 gset:2 gset:0 w.const:16 l.const:-2 l.store:4 w.const:1 grow drop host:1 gget:0 end")
	return m
}

// deep is a state of rich in which function 0 has called function 1.
func deep() api.State {
	return api.State{
		Frames:  []api.Frame{{Pc: 1, Locals: []uint64{3, 4}}, {Function: 1, Pc: 2, Locals: []uint64{7}, Stack: []uint64{7, 8}}},
		Globals: []uint64{high - 1, math.MaxUint64, 1 << 63},
		Pages:   blank(2),
		Replies: 2,
		End:     suspended,
		Used:    77,
	}
}

// ended is a state of rich that has ended so.
func ended(end int8) api.State {
	s := deep()
	s.Frames, s.End = nil, end
	if end == trapped {
		s.Trap = trapMemory
	} else {
		s.Results = []uint64{math.MaxUint64, 0}
	}
	return s
}

// counting goes round for ever, five steps each time, and counts the rounds.
func counting() (api.Module, api.State) {
	m := of("l>", "", "loop:> get:0 l.const:1 l.add set:0 br:0 end end")
	return m, begun(m, 0)
}

// round: where counting stands behind so many steps.
func round(steps int64) string {
	if steps == 0 {
		return "frame 0 at 0 locals 0 stack"
	}
	rounds, more := (steps-1)/5, (steps-1)%5
	stack := []string{"", fmt.Sprint(" ", rounds), fmt.Sprint(" ", rounds, " 1"), fmt.Sprint(" ", rounds+1), ""}[more]
	if more == 4 {
		rounds++
	}
	return fmt.Sprint("frame 0 at ", 1+more, " locals ", rounds, " stack", stack)
}

// bugged is debug.New where it may not refuse.
func bugged(t *testing.T, m api.Module, script []api.Reply, s api.State) *debug.Debug {
	t.Helper()
	d, e := debug.New(m, script, s)
	if e != api.OK || d == nil {
		t.Fatalf("P28.1: %s: %d", code(m, 0), e)
	}
	return d
}

// breaks puts breakpoints, each told as a function and a pc.
func breaks(t *testing.T, d *debug.Debug, places ...[2]int) {
	t.Helper()
	for _, x := range places {
		if e := d.Break(x[0], x[1]); e != api.OK {
			t.Fatalf("P28.2: Break%d: %d", x, e)
		}
	}
}

// watches is Watch where it may not refuse.
func watches(t *testing.T, d *debug.Debug, at, n int) {
	t.Helper()
	if e := d.Watch(at, n); e != api.OK {
		t.Fatalf("P28.3: Watch(%d, %d): %d", at, n, e)
	}
}

// state is State where it may not refuse.
func state(t *testing.T, d *debug.Debug) api.State {
	t.Helper()
	s, e := d.State()
	if e != api.OK {
		t.Fatalf("P28.6: %d", e)
	}
	return s
}

// stands: is that the state, as it is told by hand?
func stands(t *testing.T, d *debug.Debug, want string) {
	t.Helper()
	if got := show(state(t, d)); got != want {
		t.Errorf("P28.6: %s, not %s", got, want)
	}
}

// stops: does the run with that fuel stop for that reason, so many steps from where Used is 0?
func stops(t *testing.T, d *debug.Debug, fuel int64, want int8, used int64) {
	t.Helper()
	why, e := d.Run(fuel)
	if got := state(t, d).Used; why != want || e != api.OK || got != used {
		t.Errorf("P28.4: Run(%d): %d, %d, used %d, not %d, used %d", fuel, why, e, got, want, used)
	}
}

// refuses: does the run with that fuel answer that error and no reason, and is the state as it was?
func refuses(t *testing.T, d *debug.Debug, fuel int64, want api.Errno) {
	t.Helper()
	before := state(t, d)
	why, e := d.Run(fuel)
	if after := state(t, d); why != 0 || e != want || !identical(before, after) {
		t.Errorf("P28.4: Run(%d): %d, %d, not %d: %s", fuel, why, e, want, show(after))
	}
}

// goes: told to go back by so many steps, does it go by that many, to where Used is that?
func goes(t *testing.T, d *debug.Debug, steps, want, used int64) {
	t.Helper()
	gone, e := d.Back(steps)
	if got := state(t, d).Used; gone != want || e != api.OK || got != used {
		t.Errorf("P28.5: Back(%d): %d, %d, used %d, not %d, used %d", steps, gone, e, got, want, used)
	}
}

// single is each state on a way of so many single steps, the first one too, or of fewer, if the run ends.
func single(t *testing.T, x small, most int) []api.State {
	t.Helper()
	s := x.s
	way := []api.State{s}
	for len(way) <= most && s.End == suspended {
		var e api.Errno
		if s, e = step.Step(x.m, x.script, s); e != api.OK {
			t.Fatalf("a step: %d", e)
		}
		way = append(way, s)
	}
	return way
}

// byteAt: the byte that a state's memory holds there; beyond it 0.
func byteAt(s api.State, at int) byte {
	if at >= len(s.Pages)*size {
		return 0
	}
	return s.Pages[at/size][at%size]
}

// model is what a debug is meant to be: a way of single steps, where it stands on it, its breakpoints, and what is watched.
type model struct {
	way       []api.State
	at        int
	breaks    map[[2]int]bool
	first, to int // of what is watched, and behind it
}

// changed: is a byte that is watched another one at that step than ahead of it?
func (x *model) changed(step int) bool {
	for at := x.first; at < x.to; at++ {
		if byteAt(x.way[step], at) != byteAt(x.way[step-1], at) {
			return true
		}
	}
	return false
}

// run: why a run with that fuel stops. The way is long enough, or the run ends.
func (x *model) run(fuel int) int8 {
	for made := range fuel {
		last := x.way[x.at].Frames[len(x.way[x.at].Frames)-1]
		if made > 0 && x.breaks[[2]int{last.Function, last.Pc}] {
			return broke
		}
		x.at++
		if x.way[x.at].End != suspended {
			return over
		}
		if x.changed(x.at) {
			return watched
		}
	}
	return fuelled
}

// pair is a debug, and what it is meant to be.
type pair struct {
	x     small
	debug *debug.Debug
	model
}

// paired: a new debug of that run, whose way of single steps is told.
func paired(t *testing.T, x small, way []api.State) *pair {
	t.Helper()
	p := &pair{x, bugged(t, x.m, x.script, x.s), model{way: way, breaks: map[[2]int]bool{}}}
	p.agrees(t)
	return p
}

// agrees: does the debug stand where it is meant to?
func (p *pair) agrees(t *testing.T) {
	t.Helper()
	if got, want := state(t, p.debug), p.way[p.at]; !identical(got, want) {
		t.Fatalf("W7: %s, at %d: %s, not %s", code(p.x.m, 0), p.at, show(got), show(want))
	}
}

// left: how many steps the way still has.
func (p *pair) left() int {
	return len(p.way) - 1 - p.at
}

// run with that fuel, or with less, if neither the run ends nor the way is so long: does the debug stop as it is meant to?
func (p *pair) run(t *testing.T, fuel int) int8 {
	t.Helper()
	if p.way[p.at].End != suspended {
		refuses(t, p.debug, int64(fuel), api.ErrDone)
		return 0
	}
	if p.way[len(p.way)-1].End == suspended {
		fuel = min(fuel, p.left())
	}
	from := p.at
	want := p.model.run(fuel)
	why, e := p.debug.Run(int64(fuel))
	if why != want || e != api.OK {
		t.Fatalf("P28.4: %s, at %d, Run(%d), breakpoints %v, watched %d to %d: %d, %d, not %d at %d", code(p.x.m, 0), from, fuel, p.breaks, p.first, p.to, why, e, want, p.at)
	}
	p.agrees(t)
	return why
}

// back by so many steps: does the debug go as it is meant to?
func (p *pair) back(t *testing.T, steps int) {
	t.Helper()
	want := min(steps, p.at)
	if gone, e := p.debug.Back(int64(steps)); gone != int64(want) || e != api.OK {
		t.Fatalf("P28.5: %s, at %d, Back(%d): %d, %d", code(p.x.m, 0), p.at, steps, gone, e)
	}
	p.at -= want
	p.agrees(t)
}

// put or clear a breakpoint: does the debug say what it is meant to?
func (p *pair) put(t *testing.T, function, pc int) {
	t.Helper()
	want := api.Errno(api.ErrArg)
	if function >= 0 && function < len(p.x.m.Functions) && pc >= 0 && pc < len(p.x.m.Functions[function].Code) {
		want, p.breaks[[2]int{function, pc}] = api.OK, true
	}
	if e := p.debug.Break(function, pc); e != want {
		t.Fatalf("P28.2: Break(%d, %d): %d, not %d", function, pc, e, want)
	}
}

func (p *pair) clear(t *testing.T, function, pc int) {
	t.Helper()
	if was, want := p.debug.Clear(function, pc), p.breaks[[2]int{function, pc}]; was != want {
		t.Fatalf("P28.2: Clear(%d, %d): %t, not %t", function, pc, was, want)
	}
	delete(p.breaks, [2]int{function, pc})
}

// watch so many bytes from there on, if there may be so many: does the debug say what it is meant to?
func (p *pair) watch(t *testing.T, at, n int) {
	t.Helper()
	want := api.Errno(api.ErrArg)
	if at >= 0 && at <= mostAt && n >= 1 && n <= mostBytes {
		want, p.first, p.to = api.OK, at, at+n
	}
	if e := p.debug.Watch(at, n); e != want {
		t.Fatalf("P28.3: Watch(%d, %d): %d, not %d", at, n, e, want)
	}
}

func (p *pair) unwatch() {
	p.debug.Unwatch()
	p.first, p.to = 0, 0
}

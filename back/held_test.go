package back_test

import (
	"bytes"
	"fmt"
	"math"
	"slices"
	"strings"
	"testing"

	"flagon/api"
	"flagon/back"
	"flagon/step"
)

// The limits and numbers of the document, told once more here so that those of the program are tested, too.
const (
	suspended = 1
	halted    = 2
	trapped   = 3
	size      = 4096
	most64    = 64
	high      = 1 << 32 // the least number that is no w
	mostUsed  = 1 << 62
	mostBack  = 1000
	furthest  = 1<<31 - 1

	trapOp     = 1
	trapMemory = 2
	trapZero   = 3
	trapRange  = 4
	trapFrames = 5
	trapHost   = 6
)

// edges are numbers at the ends of both letters' ranges.
func edges() []uint64 {
	return []uint64{0, 1, 2, 7, 31, 32, 33, 63, 64, 1<<31 - 1, 1 << 31, 1<<31 + 1, high - 2, high - 1, high, high + 1, math.MaxInt64, 1 << 63, 1<<63 + 1, math.MaxUint64 - 1, math.MaxUint64}
}

func cloned(s api.State) api.State {
	s.Results, s.Globals, s.Pages, s.Frames = slices.Clone(s.Results), slices.Clone(s.Globals), slices.Clone(s.Pages), slices.Clone(s.Frames)
	for at := range s.Pages {
		s.Pages[at] = slices.Clone(s.Pages[at])
	}
	for at := range s.Frames {
		f := &s.Frames[at]
		f.Locals, f.Stack = slices.Clone(f.Locals), slices.Clone(f.Stack)
	}
	return s
}

func sameFrame(a, b api.Frame) bool {
	return a.Function == b.Function && a.Pc == b.Pc && slices.Equal(a.Locals, b.Locals) && slices.Equal(a.Stack, b.Stack)
}

// identical: frame.Equal, said without the program.
func identical(a, b api.State) bool {
	return a.End == b.End && a.Trap == b.Trap && a.Used == b.Used && a.Replies == b.Replies && slices.Equal(a.Results, b.Results) &&
		slices.Equal(a.Globals, b.Globals) && slices.EqualFunc(a.Pages, b.Pages, bytes.Equal) && slices.EqualFunc(a.Frames, b.Frames, sameFrame)
}

// small is a run that ends behind so many steps, or is looked at for so many of them.
type small struct {
	m      api.Module
	script []api.Reply
	s      api.State
	steps  int
}

// smalls are short runs of each kind: halting, trapping, endless; with calls, hosts, a memory.
func smalls() []small {
	five := paged(1, 2, ">w", "", "w.const:5 end")
	loop := of("w>w", "", "loop:> get:0 w.const:1 w.sub tee:0 brif:0 end w.const:7 end")
	fact := of("l>l", "", "get:0 l.eqz if:>l l.const:1 else get:0 get:0 l.const:1 l.sub call:0 l.mul end end")
	round := paged(0, 3, ">", "", "loop:> w.const:1 grow drop w.const:4095 w.const:9 w.store8 br:0 end end")
	trap := of(">w", "", "w.const:1 w.const:0 w.divs end")
	endless := of(">", "", "call:0 end")
	return []small{
		{five, nil, begun(five), 2},
		{loop, nil, begun(loop, 3), 19},
		{fact, nil, begun(fact, 3), 40},
		{round, nil, begun(round), 30},
		{trap, nil, begun(trap), 3},
		{endless, nil, begun(endless), 64},
		{rich(), []api.Reply{{}, {Results: []uint64{5}}}, begun(rich(), 7), 22},
		{rich(), []api.Reply{{}, {Trap: true}}, begun(rich(), 7), 16},
		{rich(), nil, begun(rich(), 7), 13},
		{rich(), nil, deep(), 9},
	}
}

// late is the same run near the most that can be used.
func late(x small, below int64) small {
	x.s = cloned(x.s)
	x.s.Used = mostUsed - below
	return x
}

// rich is a module of two functions, with hosts, globals of each kind and a memory.
func rich() api.Module {
	m := api.Module{First: 1, Most: 3, Globals: []api.Global{{Letter: 'w', Mutable: true, Value: 5}, {Letter: 'l', Value: math.MaxUint64}, {Letter: 'l', Mutable: true, Value: 9}}}
	m.Hosts = []int{kind(&m, "w>l"), kind(&m, ">")}
	put(&m, "w>wl", "l", "get:0 call:1 host:0 set:1 get:0 w.const:1 w.add get:1 end")
	put(&m, "w>w", "", "get:0 gget:2 gset:2 gset:0 w.const:16 l.const:-2 l.store:4 w.const:1 grow drop host:1 gget:0 end")
	return m
}

// deep is a state of rich in which function 0 has called function 1.
func deep() api.State {
	return api.State{
		Frames:  []api.Frame{{Pc: 1, Locals: []uint64{3, 4}}, {Function: 1, Pc: 2, Locals: []uint64{7}, Stack: []uint64{7, 8}}},
		Globals: []uint64{high - 1, math.MaxUint64, 1 << 63},
		Pages:   blank(2),
		Replies: 2,
		End:     suspended,
		Used:    77,
	}
}

// ended is a state of rich that has ended so.
func ended(end int8) api.State {
	s := deep()
	s.Frames, s.End = nil, end
	if end == trapped {
		s.Trap = trapMemory
	} else {
		s.Results = []uint64{math.MaxUint64, 0}
	}
	return s
}

// counting goes round for ever, five steps each time, and counts the rounds.
func counting() (api.Module, api.State) {
	m := of("l>", "", "loop:> get:0 l.const:1 l.add set:0 br:0 end end")
	return m, begun(m, 0)
}

// round: where counting stands behind so many steps.
func round(steps int64) string {
	if steps == 0 {
		return "frame 0 at 0 locals 0 stack"
	}
	rounds, more := (steps-1)/5, (steps-1)%5
	stack := []string{"", fmt.Sprint(" ", rounds), fmt.Sprint(" ", rounds, " 1"), fmt.Sprint(" ", rounds+1), ""}[more]
	if more == 4 {
		rounds++
	}
	return fmt.Sprint("frame 0 at ", 1+more, " locals ", rounds, " stack", stack)
}

// told: numbers with blanks between.
func told(list []int64) string {
	return strings.Trim(fmt.Sprint(list), "[]")
}

// taped is back.New where it may not refuse.
func taped(t *testing.T, m api.Module, script []api.Reply, s api.State, every int) *back.Tape {
	t.Helper()
	x, e := back.New(m, script, s, every)
	if e != api.OK || x == nil {
		t.Fatalf("P25.1: %s, every %d: %d", code(m, 0), every, e)
	}
	return x
}

// went is Go where it may not refuse.
func went(t *testing.T, x *back.Tape, to int64) api.State {
	t.Helper()
	s, e := x.Go(to)
	if e != api.OK {
		t.Fatalf("P25.2: Go(%d): %d", to, e)
	}
	return s
}

// stands: does the tape stand at that step, and keep the states of these?
func stands(t *testing.T, x *back.Tape, at int64, kept string) {
	t.Helper()
	if x.At() != at || told(x.Kept()) != kept {
		t.Errorf("P25.3: at %d, kept %.200s, not at %d, kept %.200s", x.At(), told(x.Kept()), at, kept)
	}
}

// comes: does the tape, told to go there, come to that state, and stand and keep so, as it is told by hand?
func comes(t *testing.T, x *back.Tape, to int64, want string, at int64, kept string) {
	t.Helper()
	if got := show(went(t, x, to)); got != want {
		t.Errorf("P25.2: Go(%d): %s, not %s", to, got, want)
	}
	stands(t, x, at, kept)
}

// stays: does the tape refuse to go there with that error, and stay as it was?
func stays(t *testing.T, x *back.Tape, to int64, want api.Errno) {
	t.Helper()
	at, kept := x.At(), told(x.Kept())
	if s, e := x.Go(to); e != want || !identical(s, api.State{}) {
		t.Errorf("P25.2: Go(%d): %d, Used %d, not %d", to, e, s.Used, want)
	}
	stands(t, x, at, kept)
}

// single is each state on a way of so many single steps, the first one too, or of fewer, if the run ends.
func single(t *testing.T, x small, most int) []api.State {
	t.Helper()
	s := x.s
	way := []api.State{s}
	for len(way) <= most && s.End == suspended {
		var e api.Errno
		if s, e = step.Step(x.m, x.script, s); e != api.OK {
			t.Fatalf("a step: %d", e)
		}
		way = append(way, s)
	}
	return way
}

// model is what a tape is meant to be: a way of single steps, where it stands on it, and how far it was.
type model struct {
	way     []api.State
	every   int
	at, far int
}

// to: the state at that step, at which it stands from now on. The way is long enough, or the run ends.
func (x *model) to(step int) api.State {
	last := len(x.way) - 1
	if step > last && x.way[last].End == suspended {
		panic("the way is too short")
	}
	x.at = min(step, last)
	x.far = max(x.far, x.at)
	return x.way[x.at]
}

// kept: the steps whose states it keeps.
func (x *model) kept() []int64 {
	list := []int64{0}
	for x.far/x.every >= len(list) {
		list = append(list, int64(len(list)*x.every))
	}
	return list
}

// pair is a tape, and what it is meant to be.
type pair struct {
	x    small
	tape *back.Tape
	model
}

// paired: a new tape of that run, whose way of single steps is told.
func paired(t *testing.T, x small, way []api.State, every int) *pair {
	t.Helper()
	p := &pair{x, taped(t, x.m, x.script, x.s, every), model{way: way, every: every}}
	p.agrees(t)
	return p
}

// agrees: does the tape stand and keep as it is meant to?
func (p *pair) agrees(t *testing.T) {
	t.Helper()
	if at, kept := p.tape.At(), p.tape.Kept(); at != int64(p.at) || !slices.Equal(kept, p.kept()) {
		t.Fatalf("P25.3: %s, every %d: at %d, kept %v, not at %d, kept %v", code(p.x.m, 0), p.every, at, kept, p.at, p.kept())
	}
}

// move: does the tape come to the state that is meant, wherever it stood?
func (p *pair) move(t *testing.T, step int) {
	t.Helper()
	from := p.at
	got, want := went(t, p.tape, int64(step)), p.to(step)
	if !identical(got, want) {
		t.Fatalf("W7: %s, every %d: from %d to %d: %s, not %s", code(p.x.m, 0), p.every, from, step, show(got), show(want))
	}
	p.agrees(t)
}

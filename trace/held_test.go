package trace_test

import (
	"bytes"
	"fmt"
	"math"
	"slices"
	"strings"
	"testing"

	"flagon/api"
	"flagon/slow"
	"flagon/step"
	"flagon/trace"
)

// The limits and numbers of the document, told once more here so that those of the program are tested, too.
const (
	suspended = 1
	halted    = 2
	trapped   = 3
	size      = 4096
	most64    = 64
	high      = 1 << 32 // the least number that is no w
	mostUsed  = 1 << 62
	mostOf    = 65536 // events of a trace

	trapOp     = 1
	trapMemory = 2
	trapZero   = 3
	trapRange  = 4
	trapFrames = 5
	trapHost   = 6
)

// edges are numbers at the ends of both letters' ranges.
func edges() []uint64 {
	return []uint64{0, 1, 2, 7, 31, 32, 33, 63, 64, 1<<31 - 1, 1 << 31, 1<<31 + 1, high - 2, high - 1, high, high + 1, math.MaxInt64, 1 << 63, 1<<63 + 1, math.MaxUint64 - 1, math.MaxUint64}
}

func cloned(s api.State) api.State {
	s.Results, s.Globals, s.Pages, s.Frames = slices.Clone(s.Results), slices.Clone(s.Globals), slices.Clone(s.Pages), slices.Clone(s.Frames)
	for at := range s.Pages {
		s.Pages[at] = slices.Clone(s.Pages[at])
	}
	for at := range s.Frames {
		f := &s.Frames[at]
		f.Locals, f.Stack = slices.Clone(f.Locals), slices.Clone(f.Stack)
	}
	return s
}

func sameFrame(a, b api.Frame) bool {
	return a.Function == b.Function && a.Pc == b.Pc && slices.Equal(a.Locals, b.Locals) && slices.Equal(a.Stack, b.Stack)
}

// identical: frame.Equal, said without the program.
func identical(a, b api.State) bool {
	return a.End == b.End && a.Trap == b.Trap && a.Used == b.Used && a.Replies == b.Replies && slices.Equal(a.Results, b.Results) &&
		slices.Equal(a.Globals, b.Globals) && slices.EqualFunc(a.Pages, b.Pages, bytes.Equal) && slices.EqualFunc(a.Frames, b.Frames, sameFrame)
}

// small is a run that ends behind so many steps, or is looked at for so many of them.
type small struct {
	m      api.Module
	script []api.Reply
	s      api.State
	steps  int
}

// smalls are short runs of each kind: halting, trapping, endless; with calls, hosts, a memory.
func smalls() []small {
	five := paged(1, 2, ">w", "", "w.const:5 end")
	loop := of("w>w", "", "loop:> get:0 w.const:1 w.sub tee:0 brif:0 end w.const:7 end")
	fact := of("l>l", "", "get:0 l.eqz if:>l l.const:1 else get:0 get:0 l.const:1 l.sub call:0 l.mul end end")
	round := paged(0, 3, ">", "", "loop:> w.const:1 grow drop w.const:4095 w.const:9 w.store8 br:0 end end")
	trap := of(">w", "", "w.const:1 w.const:0 w.divs end")
	endless := of(">", "", "call:0 end")
	return []small{
		{five, nil, begun(five), 2},
		{loop, nil, begun(loop, 3), 19},
		{fact, nil, begun(fact, 3), 40},
		{round, nil, begun(round), 30},
		{trap, nil, begun(trap), 3},
		{endless, nil, begun(endless), 64},
		{rich(), []api.Reply{{}, {Results: []uint64{5}}}, begun(rich(), 7), 22},
		{rich(), []api.Reply{{}, {Trap: true}}, begun(rich(), 7), 16},
		{rich(), nil, begun(rich(), 7), 13},
		{rich(), nil, deep(), 9},
	}
}

// late is the same run near the most that can be used.
func late(x small, below int64) small {
	x.s = cloned(x.s)
	x.s.Used = mostUsed - below
	return x
}

// rich is a module of two functions, with hosts, globals of each kind and a memory.
func rich() api.Module {
	m := api.Module{First: 1, Most: 3, Globals: []api.Global{{Letter: 'w', Mutable: true, Value: 5}, {Letter: 'l', Value: math.MaxUint64}, {Letter: 'l', Mutable: true, Value: 9}}}
	m.Hosts = []int{kind(&m, "w>l"), kind(&m, ">")}
	put(&m, "w>wl", "l", "get:0 call:1 host:0 set:1 get:0 w.const:1 w.add get:1 end")
	put(&m, "w>w", "", "get:0 gget:2 gset:2 gset:0 w.const:16 l.const:-2 l.store:4 w.const:1 grow drop host:1 gget:0 end")
	return m
}

// deep is a state of rich in which function 0 has called function 1.
func deep() api.State {
	return api.State{
		Frames:  []api.Frame{{Pc: 1, Locals: []uint64{3, 4}}, {Function: 1, Pc: 2, Locals: []uint64{7}, Stack: []uint64{7, 8}}},
		Globals: []uint64{high - 1, math.MaxUint64, 1 << 63},
		Pages:   blank(2),
		Replies: 2,
		End:     suspended,
		Used:    77,
	}
}

// ended is a state of rich that has ended so.
func ended(end int8) api.State {
	s := deep()
	s.Frames, s.End = nil, end
	if end == trapped {
		s.Trap = trapMemory
	} else {
		s.Results = []uint64{math.MaxUint64, 0}
	}
	return s
}

// counting goes round for ever, five steps each time, and counts the rounds.
func counting() (api.Module, api.State) {
	m := of("l>", "", "loop:> get:0 l.const:1 l.add set:0 br:0 end end")
	return m, begun(m, 0)
}

// said: events as the chapter's examples have them, Depth, Function and Pc, with the opcode's word behind.
func said(events []trace.Event) string {
	var out []string
	for _, x := range events {
		out = append(out, fmt.Sprint(x.Depth, " ", x.Function, " ", x.Pc, " ", wordOf[x.Op]))
	}
	return strings.Join(out, ", ")
}

// traced is trace.Of where it may not refuse; the state is held against slow.Run's.
func traced(t *testing.T, m api.Module, script []api.Reply, s api.State, fuel int64, most int) ([]trace.Event, api.State) {
	t.Helper()
	events, end, e := trace.Of(m, script, s, fuel, most)
	want, e2 := slow.Run(m, script, s, fuel)
	if e != api.OK || e2 != api.OK || !identical(end, want) {
		t.Fatalf("P26.1: %s, fuel %d, most %d: %d, %s, not %d, %s", code(m, 0), fuel, most, e, show(end), e2, show(want))
	}
	return events, end
}

// tells: are these the events, as they are told by hand, and is that the state?
func tells(t *testing.T, m api.Module, script []api.Reply, s api.State, fuel int64, most int, events, want string) {
	t.Helper()
	got, end := traced(t, m, script, s, fuel, most)
	if said(got) != events || show(end) != want {
		t.Errorf("P26.1: %s, fuel %d, most %d: %s; %s, not %s; %s", code(m, 0), fuel, most, said(got), show(end), events, want)
	}
}

// way is each step that a run makes, by single steps and read off the states ahead of them; at most so many.
func way(t *testing.T, m api.Module, script []api.Reply, s api.State, most int) ([]trace.Event, api.State) {
	t.Helper()
	var list []trace.Event
	for len(list) < most && s.End == suspended {
		f := s.Frames[len(s.Frames)-1]
		list = append(list, trace.Event{Depth: len(s.Frames) - 1, Function: f.Function, Pc: f.Pc, Op: m.Functions[f.Function].Code[f.Pc].Op})
		next, e := step.Step(m, script, s)
		if e != api.OK {
			t.Fatalf("a step: %d", e)
		}
		s = next
	}
	return list, s
}

// same: are these the events, one by one?
func same(t *testing.T, got, want []trace.Event) {
	t.Helper()
	if slices.Equal(got, want) {
		return
	}
	at := 0
	for at < min(len(got), len(want)) && got[at] == want[at] {
		at++
	}
	t.Fatalf("P26.1: %d events, not %d; from %d on %s, not %s", len(got), len(want), at, said(got[at:min(at+5, len(got))]), said(want[at:min(at+5, len(want))]))
}

package profile_test

import (
	"bytes"
	"fmt"
	"math"
	"slices"
	"strings"
	"testing"

	"flagon/api"
	"flagon/profile"
	"flagon/slow"
	"flagon/step"
)

// The limits and numbers of the document, told once more here so that those of the program are tested, too.
const (
	suspended = 1
	halted    = 2
	trapped   = 3
	size      = 4096
	most64    = 64
	mostBlock = 16
	high      = 1 << 32 // the least number that is no w
	mostUsed  = 1 << 62

	trapOp     = 1
	trapMemory = 2
	trapZero   = 3
	trapRange  = 4
	trapFrames = 5
	trapHost   = 6
)

// edges are numbers at the ends of both letters' ranges.
func edges() []uint64 {
	return []uint64{0, 1, 2, 7, 31, 32, 33, 63, 64, 1<<31 - 1, 1 << 31, 1<<31 + 1, high - 2, high - 1, high, high + 1, math.MaxInt64, 1 << 63, 1<<63 + 1, math.MaxUint64 - 1, math.MaxUint64}
}

func cloned(s api.State) api.State {
	s.Results, s.Globals, s.Pages, s.Frames = slices.Clone(s.Results), slices.Clone(s.Globals), slices.Clone(s.Pages), slices.Clone(s.Frames)
	for at := range s.Pages {
		s.Pages[at] = slices.Clone(s.Pages[at])
	}
	for at := range s.Frames {
		f := &s.Frames[at]
		f.Locals, f.Stack = slices.Clone(f.Locals), slices.Clone(f.Stack)
	}
	return s
}

func sameFrame(a, b api.Frame) bool {
	return a.Function == b.Function && a.Pc == b.Pc && slices.Equal(a.Locals, b.Locals) && slices.Equal(a.Stack, b.Stack)
}

// identical: frame.Equal, said without the program.
func identical(a, b api.State) bool {
	return a.End == b.End && a.Trap == b.Trap && a.Used == b.Used && a.Replies == b.Replies && slices.Equal(a.Results, b.Results) &&
		slices.Equal(a.Globals, b.Globals) && slices.EqualFunc(a.Pages, b.Pages, bytes.Equal) && slices.EqualFunc(a.Frames, b.Frames, sameFrame)
}

// small is a run that ends behind so many steps, or is looked at for so many of them.
type small struct {
	m      api.Module
	script []api.Reply
	s      api.State
	steps  int
}

// smalls are short runs of each kind: halting, trapping, endless; with calls, hosts, a memory.
func smalls() []small {
	five := paged(1, 2, ">w", "", "w.const:5 end")
	loop := of("w>w", "", "loop:> get:0 w.const:1 w.sub tee:0 brif:0 end w.const:7 end")
	fact := of("l>l", "", "get:0 l.eqz if:>l l.const:1 else get:0 get:0 l.const:1 l.sub call:0 l.mul end end")
	round := paged(0, 3, ">", "", "loop:> w.const:1 grow drop w.const:4095 w.const:9 w.store8 br:0 end end")
	trap := of(">w", "", "w.const:1 w.const:0 w.divs end")
	endless := of(">", "", "call:0 end")
	return []small{
		{five, nil, begun(five), 2},
		{loop, nil, begun(loop, 3), 19},
		{fact, nil, begun(fact, 3), 40},
		{round, nil, begun(round), 30},
		{trap, nil, begun(trap), 3},
		{endless, nil, begun(endless), 64},
		{rich(), []api.Reply{{}, {Results: []uint64{5}}}, begun(rich(), 7), 22},
		{rich(), []api.Reply{{}, {Trap: true}}, begun(rich(), 7), 16},
		{rich(), nil, begun(rich(), 7), 13},
		{rich(), nil, deep(), 9},
	}
}

// late is the same run near the most that can be used.
func late(x small, below int64) small {
	x.s = cloned(x.s)
	x.s.Used = mostUsed - below
	return x
}

// rich is a module of two functions, with hosts, globals of each kind and a memory.
func rich() api.Module {
	m := api.Module{First: 1, Most: 3, Globals: []api.Global{{Letter: 'w', Mutable: true, Value: 5}, {Letter: 'l', Value: math.MaxUint64}, {Letter: 'l', Mutable: true, Value: 9}}}
	m.Hosts = []int{kind(&m, "w>l"), kind(&m, ">")}
	put(&m, "w>wl", "l", "get:0 call:1 host:0 set:1 get:0 w.const:1 w.add get:1 end")
	put(&m, "w>w", "", "get:0 gget:2 gset:2 gset:0 w.const:16 l.const:-2 l.store:4 w.const:1 grow drop host:1 gget:0 end")
	return m
}

// deep is a state of rich in which function 0 has called function 1.
func deep() api.State {
	return api.State{
		Frames:  []api.Frame{{Pc: 1, Locals: []uint64{3, 4}}, {Function: 1, Pc: 2, Locals: []uint64{7}, Stack: []uint64{7, 8}}},
		Globals: []uint64{high - 1, math.MaxUint64, 1 << 63},
		Pages:   blank(2),
		Replies: 2,
		End:     suspended,
		Used:    77,
	}
}

// ended is a state of rich that has ended so.
func ended(end int8) api.State {
	s := deep()
	s.Frames, s.End = nil, end
	if end == trapped {
		s.Trap = trapMemory
	} else {
		s.Results = []uint64{math.MaxUint64, 0}
	}
	return s
}

// counting goes round for ever, five steps each time, and counts the rounds.
func counting() (api.Module, api.State) {
	m := of("l>", "", "loop:> get:0 l.const:1 l.add set:0 br:0 end end")
	return m, begun(m, 0)
}

// joined: each of a list as a text, with that between them.
func joined[T any](list []T, between string, say func(x T) string) string {
	out := make([]string, len(list))
	for at, x := range list {
		out[at] = say(x)
	}
	return strings.Join(out, between)
}

// saidCounts: the numbers of a function with blanks, the functions with bars between.
func saidCounts(counts [][]int64) string {
	return joined(counts, " | ", func(list []int64) string {
		return joined(list, " ", func(n int64) string { return fmt.Sprint(n) })
	})
}

// saidLines: Function, Start, Entered and Fuel of each line, as the chapter's examples have them.
func saidLines(lines []profile.Line) string {
	return joined(lines, ", ", func(x profile.Line) string {
		return fmt.Sprint(x.Function, " ", x.Start, " ", x.Entered, " ", x.Fuel)
	})
}

// saidOps: the numbers that are not 0, each behind its opcode's word, or behind its place where no instruction has that.
func saidOps(list []int64) string {
	var out []string
	for op, n := range list {
		if n == 0 {
			continue
		}
		word := fmt.Sprint(op)
		if op < 256 && wordOf[byte(op)] != "" {
			word = wordOf[byte(op)]
		}
		out = append(out, fmt.Sprint(word, " ", n))
	}
	return strings.Join(out, ", ")
}

// counted is profile.Counts where it may not refuse; the state is held against slow.Run's, and there is a list for each function and a number for each pc.
func counted(t *testing.T, x small, fuel int64) ([][]int64, api.State) {
	t.Helper()
	counts, end, e := profile.Counts(x.m, x.script, x.s, fuel)
	want, e2 := slow.Run(x.m, x.script, x.s, fuel)
	if e != api.OK || e2 != api.OK || !identical(end, want) {
		t.Fatalf("P27.1: %s, fuel %d: %d, %s, not %d, %s", code(x.m, 0), fuel, e, show(end), e2, show(want))
	}
	shaped(t, x.m, counts)
	return counts, end
}

// shaped: is there a list for each function, and a number for each pc?
func shaped(t *testing.T, m api.Module, counts [][]int64) {
	t.Helper()
	if len(counts) != len(m.Functions) {
		t.Fatalf("P27.1: %d lists of %d functions", len(counts), len(m.Functions))
	}
	for at, list := range counts {
		if len(list) != len(m.Functions[at].Code) {
			t.Fatalf("P27.1: %d numbers of %d instructions of the function %d", len(list), len(m.Functions[at].Code), at)
		}
	}
}

// linesOf is profile.Lines where it may not refuse.
func linesOf(t *testing.T, m api.Module, counts [][]int64) []profile.Line {
	t.Helper()
	list, e := profile.Lines(m, counts)
	if e != api.OK {
		t.Fatalf("P27.2: %s: %d", saidCounts(counts), e)
	}
	return list
}

// opsOf is profile.Ops where it may not refuse.
func opsOf(t *testing.T, m api.Module, counts [][]int64) []int64 {
	t.Helper()
	list, e := profile.Ops(m, counts)
	if e != api.OK || len(list) != 256 {
		t.Fatalf("P27.3: %s: %d numbers, %d", saidCounts(counts), len(list), e)
	}
	return list
}

// told: what is told of a run by hand.
type told struct{ counts, lines, ops, end string }

// tells: is that told of this run?
func tells(t *testing.T, x small, fuel int64, want told) {
	t.Helper()
	counts, end := counted(t, x, fuel)
	got := told{saidCounts(counts), saidLines(linesOf(t, x.m, counts)), saidOps(opsOf(t, x.m, counts)), show(end)}
	if got != want {
		t.Errorf("P27.1, P27.2, P27.3: %s, fuel %d:\n%+v, not\n%+v", code(x.m, 0), fuel, got, want)
	}
}

// says: are these the lines and the opcodes of those counts, whoever made them?
func says(t *testing.T, m api.Module, counts [][]int64, lines, ops string) {
	t.Helper()
	if got := saidLines(linesOf(t, m, counts)); got != lines {
		t.Errorf("P27.2: %s, %s: %s, not %s", code(m, 0), saidCounts(counts), got, lines)
	}
	if got := saidOps(opsOf(t, m, counts)); got != ops {
		t.Errorf("P27.3: %s, %s: %s, not %s", code(m, 0), saidCounts(counts), got, ops)
	}
}

// nones: a number for each pc of each function, all 0.
func nones(m api.Module) [][]int64 {
	list := make([][]int64, len(m.Functions))
	for at, f := range m.Functions {
		list[at] = make([]int64, len(f.Code))
	}
	return list
}

// way: how often each instruction is executed by a run, by single steps and read off the states ahead of them; at most so many.
func way(t *testing.T, x small, most int) [][]int64 {
	t.Helper()
	counts, s := nones(x.m), x.s
	for steps := 0; steps < most && s.End == suspended; steps++ {
		f := s.Frames[len(s.Frames)-1]
		counts[f.Function][f.Pc]++
		next, e := step.Step(x.m, x.script, s)
		if e != api.OK {
			t.Fatalf("a step: %d", e)
		}
		s = next
	}
	return counts
}

func sameCounts(a, b [][]int64) bool {
	return slices.EqualFunc(a, b, slices.Equal[[]int64])
}

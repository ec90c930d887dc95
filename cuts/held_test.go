package cuts_test

import (
	"bytes"
	"fmt"
	"math"
	"slices"
	"strconv"
	"strings"
	"testing"

	"flagon/api"
	"flagon/cuts"
	"flagon/step"
)

// The limits and numbers of the document, told once more here so that those of the program are tested, too.
const (
	suspended  = 1
	halted     = 2
	trapped    = 3
	size       = 4096
	most64     = 64
	high       = 1 << 32 // the least number that is no w
	mostUsed   = 1 << 62
	mostSlices = 1000

	bySlow = int8(0)
	byFast = int8(1)

	trapOp     = 1
	trapMemory = 2
	trapZero   = 3
	trapRange  = 4
	trapFrames = 5
	trapHost   = 6
)

// edges are numbers at the ends of both letters' ranges.
func edges() []uint64 {
	return []uint64{0, 1, 2, 7, 31, 32, 33, 63, 64, 1<<31 - 1, 1 << 31, 1<<31 + 1, high - 2, high - 1, high, high + 1, math.MaxInt64, 1 << 63, 1<<63 + 1, math.MaxUint64 - 1, math.MaxUint64}
}

func cloned(s api.State) api.State {
	s.Results, s.Globals, s.Pages, s.Frames = slices.Clone(s.Results), slices.Clone(s.Globals), slices.Clone(s.Pages), slices.Clone(s.Frames)
	for at := range s.Pages {
		s.Pages[at] = slices.Clone(s.Pages[at])
	}
	for at := range s.Frames {
		f := &s.Frames[at]
		f.Locals, f.Stack = slices.Clone(f.Locals), slices.Clone(f.Stack)
	}
	return s
}

func sameFrame(a, b api.Frame) bool {
	return a.Function == b.Function && a.Pc == b.Pc && slices.Equal(a.Locals, b.Locals) && slices.Equal(a.Stack, b.Stack)
}

// identical: frame.Equal, said without the program.
func identical(a, b api.State) bool {
	return a.End == b.End && a.Trap == b.Trap && a.Used == b.Used && a.Replies == b.Replies && slices.Equal(a.Results, b.Results) &&
		slices.Equal(a.Globals, b.Globals) && slices.EqualFunc(a.Pages, b.Pages, bytes.Equal) && slices.EqualFunc(a.Frames, b.Frames, sameFrame)
}

// small is a run that ends behind so many steps, or is looked at for so many of them.
type small struct {
	m      api.Module
	script []api.Reply
	s      api.State
	steps  int
}

// smalls are short runs of each kind: halting, trapping, endless; with calls, hosts, a memory.
func smalls() []small {
	five := paged(1, 2, ">w", "", "w.const:5 end")
	loop := of("w>w", "", "loop:> get:0 w.const:1 w.sub tee:0 brif:0 end w.const:7 end")
	fact := of("l>l", "", "get:0 l.eqz if:>l l.const:1 else get:0 get:0 l.const:1 l.sub call:0 l.mul end end")
	round := paged(0, 3, ">", "", "loop:> w.const:1 grow drop w.const:4095 w.const:9 w.store8 br:0 end end")
	trap := of(">w", "", "w.const:1 w.const:0 w.divs end")
	endless := of(">", "", "call:0 end")
	return []small{
		{five, nil, begun(five), 2},
		{loop, nil, begun(loop, 3), 19},
		{fact, nil, begun(fact, 3), 40},
		{round, nil, begun(round), 30},
		{trap, nil, begun(trap), 3},
		{endless, nil, begun(endless), 64},
		{rich(), []api.Reply{{}, {Results: []uint64{5}}}, begun(rich(), 7), 22},
		{rich(), []api.Reply{{}, {Trap: true}}, begun(rich(), 7), 16},
		{rich(), nil, begun(rich(), 7), 13},
		{rich(), nil, deep(), 9},
	}
}

// late is the same run near the most that can be used.
func late(x small, back int64) small {
	x.s = cloned(x.s)
	x.s.Used = mostUsed - back
	return x
}

// rich is a module of two functions, with hosts, globals of each kind and a memory.
func rich() api.Module {
	m := api.Module{First: 1, Most: 3, Globals: []api.Global{{Letter: 'w', Mutable: true, Value: 5}, {Letter: 'l', Value: math.MaxUint64}, {Letter: 'l', Mutable: true, Value: 9}}}
	m.Hosts = []int{kind(&m, "w>l"), kind(&m, ">")}
	put(&m, "w>wl", "l", "get:0 call:1 host:0 set:1 get:0 w.const:1 w.add get:1 end")
	put(&m, "w>w", "", "get:0 gget:2 gset:2 gset:0 w.const:16 l.const:-2 l.store:4 w.const:1 grow drop host:1 gget:0 end")
	return m
}

// deep is a state of rich in which function 0 has called function 1.
func deep() api.State {
	return api.State{
		Frames:  []api.Frame{{Pc: 1, Locals: []uint64{3, 4}}, {Function: 1, Pc: 2, Locals: []uint64{7}, Stack: []uint64{7, 8}}},
		Globals: []uint64{high - 1, math.MaxUint64, 1 << 63},
		Pages:   blank(2),
		Replies: 2,
		End:     suspended,
		Used:    77,
	}
}

// ended is a state of rich that has ended so.
func ended(end int8) api.State {
	s := deep()
	s.Frames, s.End = nil, end
	if end == trapped {
		s.Trap = trapMemory
	} else {
		s.Results = []uint64{math.MaxUint64, 0}
	}
	return s
}

// plan is one by its slices: their fuels, each with s or f behind it for its engine, and with ! behind that, if it saves; *9 behind one: nine of them.
func plan(told string) []cuts.Slice {
	var list []cuts.Slice
	for _, piece := range strings.Fields(told) {
		piece, times, many := strings.Cut(piece, "*")
		count := 1
		if many {
			count, _ = strconv.Atoi(times)
		}
		piece, save := strings.CutSuffix(piece, "!")
		digits, quick := strings.CutSuffix(piece, "f")
		fuel, err := strconv.ParseInt(strings.TrimSuffix(digits, "s"), 10, 64)
		if err != nil || !quick && digits[len(digits)-1] != 's' {
			panic(told)
		}
		x := cuts.Slice{Fuel: fuel, Engine: bySlow, Save: save}
		if quick {
			x.Engine = byFast
		}
		list = append(list, slices.Repeat([]cuts.Slice{x}, count)...)
	}
	return list
}

// evenly: so many slices of that fuel.
func evenly(count int, fuel int64) []int64 {
	return slices.Repeat([]int64{fuel}, count)
}

// mixes: a plan with these fuels for each way to mix the engines and to save between, if there are few of them; else for some of the ways.
func mixes(fuels []int64) [][]cuts.Slice {
	ways := 1 << (2 * min(len(fuels), 4))
	list := make([][]cuts.Slice, ways)
	for way := range list {
		for at, fuel := range fuels {
			bits := way >> (2 * (at % 4))
			list[way] = append(list[way], cuts.Slice{Fuel: fuel, Engine: int8(bits & 1), Save: bits&2 != 0})
		}
	}
	return list
}

// few: some of the mixes, each engine in each of the first four slices of some of them, saved and not.
func few(fuels []int64) [][]cuts.Slice {
	var list [][]cuts.Slice
	all := mixes(fuels)
	for way := 0; way < len(all); way += 37 {
		list = append(list, all[way])
	}
	return append(list, all[len(all)-1])
}

// told: numbers with blanks between.
func told(list []int64) string {
	return strings.Trim(fmt.Sprint(list), "[]")
}

// ran is cuts.Run where it may not refuse.
func ran(t *testing.T, m api.Module, script []api.Reply, s api.State, plan []cuts.Slice) (api.State, []int64) {
	t.Helper()
	got, made, e := cuts.Run(m, script, s, plan)
	if e != api.OK {
		t.Fatalf("P24.1: %s, plan %.200v: %d", code(m, 0), plan, e)
	}
	return got, made
}

// comes: does a run along that plan come there, and does each slice make so many steps, as it is told by hand?
func comes(t *testing.T, m api.Module, script []api.Reply, s api.State, along []cuts.Slice, want, steps string) {
	t.Helper()
	if got, made := ran(t, m, script, s, along); show(got) != want || told(made) != steps {
		t.Errorf("P24.1: %s, plan %.200v: %s, %.200s, not %s, %.200s", code(m, 0), along, show(got), told(made), want, steps)
	}
}

// mixed: is that so with these fuels, whatever engines are mixed, and whether or not it is saved between?
func mixed(t *testing.T, m api.Module, script []api.Reply, s api.State, fuels []int64, want, steps string) {
	t.Helper()
	for _, along := range mixes(fuels) {
		comes(t, m, script, s, along, want, steps)
	}
}

// single is what so many steps, one by one, come to, or fewer, if the run ends; and each state on the way, the first one too.
func single(t *testing.T, m api.Module, script []api.Reply, s api.State, most int) []api.State {
	t.Helper()
	way := []api.State{s}
	for len(way) <= most && s.End == suspended {
		var e api.Errno
		if s, e = step.Step(m, script, s); e != api.OK {
			t.Fatalf("a step: %d", e)
		}
		way = append(way, s)
	}
	return way
}

// meant: what a plan comes to along this way of single steps, and how many of them each slice makes that is run. The way is long enough for the plan, or the run ends.
func meant(way []api.State, along []cuts.Slice) (api.State, []int64) {
	at, last := 0, len(way)-1
	var made []int64
	for _, x := range along {
		if way[at].End != suspended {
			break
		}
		steps := min(x.Fuel, int64(last-at))
		if steps < x.Fuel && way[last].End == suspended {
			panic("the way is too short")
		}
		at += int(steps)
		made = append(made, steps)
	}
	return way[at], made
}

// agrees: does Run answer what is meant? It tells the answer.
func agrees(t *testing.T, x small, way []api.State, along []cuts.Slice) (api.State, []int64) {
	t.Helper()
	got, made := ran(t, x.m, x.script, x.s, along)
	if want, steps := meant(way, along); !identical(got, want) || !slices.Equal(made, steps) {
		t.Fatalf("P24.1: %s, plan %.300v from %s: %s, %.200s, not %s, %.200s", code(x.m, 0), along, show(x.s), show(got), told(made), show(want), told(steps))
	}
	return got, made
}

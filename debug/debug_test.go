package debug_test

import (
	"fmt"
	"math"
	"testing"

	"flagon/api"
	"flagon/debug"
)

// five is the chapter's first example.
func five() api.Module {
	return of(">w", "", "w.const:5 end")
}

// storing is the chapter's second example: it stores 7 at 8.
func storing() api.Module {
	return paged(1, 2, ">", "", "w.const:8 w.const:7 w.store8 nop end")
}

// TestExamples: the chapter's.
func TestExamples(t *testing.T) {
	d := bugged(t, five(), nil, begun(five()))
	breaks(t, d, [2]int{0, 1})
	stops(t, d, 9, broke, 1)
	stops(t, d, 9, over, 2)
	refuses(t, d, 9, api.ErrDone)
	goes(t, d, 1, 1, 1)
	stands(t, d, "suspended used 1 frame 0 at 1 locals stack 5")
	stops(t, d, 0, fuelled, 1)
	d = bugged(t, storing(), nil, begun(storing()))
	watches(t, d, 8, 1)
	stops(t, d, 99, watched, 3)
	stands(t, d, "suspended used 3 frame 0 at 3 locals stack pages 1 1")
	stops(t, d, 99, over, 5)
}

// TestReasons: the numbers of the reasons are the document's, and so are the limits.
func TestReasons(t *testing.T) {
	if debug.Fuel != fuelled || debug.Break != broke || debug.Watch != watched || debug.Ended != over {
		t.Error("P28.4: other reasons")
	}
	if api.MaxUsed != mostUsed || api.Page != size || api.MaxFrames != most64 {
		t.Error("other limits")
	}
}

// TestNew: a new debug stands at the state that was handed in, has no breakpoint and watches nothing.
func TestNew(t *testing.T) {
	for _, x := range append(smalls(), segmented()...) {
		d := bugged(t, x.m, x.script, x.s)
		if got := state(t, d); !identical(got, x.s) {
			t.Errorf("P28.1: %s, not %s", show(got), show(x.s))
		}
		for function, f := range x.m.Functions {
			for pc := range f.Code {
				if d.Clear(function, pc) {
					t.Errorf("P28.1: a breakpoint of nobody at %d in %d", pc, function)
				}
			}
		}
		want := int8(over)
		way := single(t, x, x.steps)
		if way[len(way)-1].End == suspended {
			want = fuelled
		}
		stops(t, d, int64(x.steps), want, way[len(way)-1].Used)
	}
}

// outside: pairs of a function and a pc at which m has no instruction.
func outside(m api.Module) [][2]int {
	most := len(m.Functions)
	list := [][2]int{{-1, 0}, {most, 0}, {most + 1, 0}, {math.MinInt, 0}, {math.MaxInt, 0}, {1 << 32, 0}, {-1, -1}, {most, math.MaxInt}}
	for function, f := range m.Functions {
		for _, pc := range []int{-1, -2, len(f.Code), len(f.Code) + 1, math.MinInt, math.MaxInt, 1 << 32, -1 << 32} {
			list = append(list, [2]int{function, pc})
		}
	}
	return list
}

// TestNoInstruction: ErrArg of a breakpoint where there is no instruction, and there is none then.
func TestNoInstruction(t *testing.T) {
	long := of(">", "", "call:1 end")
	put(&long, ">", "", "nop*5 end")
	put(&long, ">", "", "end")
	for _, m := range []api.Module{five(), rich(), long} {
		s := begun(m, make([]uint64, len(m.Types[m.Functions[0].Type].Params))...)
		d := bugged(t, m, nil, s)
		for _, x := range outside(m) {
			if e := d.Break(x[0], x[1]); e != api.ErrArg {
				t.Errorf("P28.2: Break%d: %d", x, e)
			}
			if d.Clear(x[0], x[1]) {
				t.Errorf("P28.2: Clear%d: there was one", x)
			}
		}
		for function, f := range m.Functions {
			for pc := range f.Code {
				breaks(t, d, [2]int{function, pc})
			}
		}
		for _, x := range outside(m) {
			if d.Break(x[0], x[1]) != api.ErrArg || d.Clear(x[0], x[1]) {
				t.Errorf("P28.2: at %d, where all others are", x)
			}
		}
	}
	var none api.Module
	if d, e := debug.New(none, nil, api.State{End: suspended}); e != api.ErrState || d != nil {
		t.Errorf("P28.1: of a module without functions: %d", e)
	}
}

// TestOnce: a breakpoint that is put twice is there once, and Clear takes that one alone.
func TestOnce(t *testing.T) {
	m := of(">", "", "nop*4 call:1 end")
	put(&m, ">", "", "nop*4 end")
	d := bugged(t, m, nil, begun(m))
	breaks(t, d, [2]int{0, 2}, [2]int{0, 2}, [2]int{1, 2}, [2]int{0, 3}, [2]int{0, 2})
	if d.Clear(0, 1) || d.Clear(1, 3) || d.Clear(1, 0) || d.Clear(2, 0) {
		t.Error("P28.2: Clear of what is not there")
	}
	if !d.Clear(0, 2) || d.Clear(0, 2) || d.Clear(0, 2) {
		t.Error("P28.2: Clear of what was put thrice")
	}
	stops(t, d, 99, broke, 3)
	stops(t, d, 99, broke, 7)
	stands(t, d, "suspended used 7 frame 0 at 4 locals stack frame 1 at 2 locals stack")
	breaks(t, d, [2]int{0, 2})
	if !d.Clear(0, 3) || !d.Clear(1, 2) || d.Clear(1, 2) || d.Clear(0, 3) || !d.Clear(0, 2) {
		t.Error("P28.2: Clear")
	}
	goes(t, d, 99, 7, 0)
	stops(t, d, 99, over, 11)
}

// TestAtBeginning: a breakpoint where Run begins is not told ahead of its first step; the next time it is come by it is.
func TestAtBeginning(t *testing.T) {
	m := of(">", "", "loop:> nop br:0 end end")
	d := bugged(t, m, nil, begun(m))
	breaks(t, d, [2]int{0, 0}, [2]int{0, 1})
	stops(t, d, 9, broke, 1)
	stops(t, d, 9, broke, 3)
	stops(t, d, 9, broke, 5)
	stops(t, d, 0, fuelled, 5)
	stops(t, d, 0, fuelled, 5)
	stops(t, d, 1, fuelled, 6)
	stops(t, d, 1, fuelled, 7)
	stands(t, d, "suspended used 7 frame 0 at 1 locals stack")
	stops(t, d, 1, fuelled, 8)
	breaks(t, d, [2]int{0, 2})
	stops(t, d, 5, broke, 9)
	stops(t, d, 5, broke, 10)
	goes(t, d, 3, 3, 7)
	stops(t, d, 5, broke, 8)
	stops(t, d, 5, broke, 9)
	goes(t, d, 20, 9, 0)
	stops(t, d, 5, broke, 1)
}

// TestItself: an instruction that goes on to itself comes by its breakpoint at each step.
func TestItself(t *testing.T) {
	m := of(">", "", "loop:> br:0 end end")
	d := bugged(t, m, nil, begun(m))
	breaks(t, d, [2]int{0, 1})
	for used := range int64(20) {
		stops(t, d, 9, broke, used+1)
	}
	d.Clear(0, 1)
	stops(t, d, 9, fuelled, 29)
}

// TestDeepBreaks: a breakpoint stands in a function, however deep the frames are that run it; a frame that waits at one does not count.
func TestDeepBreaks(t *testing.T) {
	m := of("l>l", "", "get:0 l.eqz if:>l l.const:1 else get:0 get:0 l.const:1 l.sub call:0 l.mul end end")
	d := bugged(t, m, nil, begun(m, 3))
	breaks(t, d, [2]int{0, 9})
	for depth := range int64(3) {
		stops(t, d, 999, broke, 8*depth+7)
		if got := len(state(t, d).Frames); got != int(depth)+1 {
			t.Errorf("P28.4: %d frames", got)
		}
	}
	breaks(t, d, [2]int{0, 10})
	stops(t, d, 999, broke, 31)
	stands(t, d, "suspended used 31 frame 0 at 9 locals 3 stack 3 frame 0 at 9 locals 2 stack 2 frame 0 at 10 locals 1 stack 1 1")
	stops(t, d, 999, broke, 34)
	stops(t, d, 999, broke, 37)
	stops(t, d, 999, over, 40)
	stands(t, d, "halted used 40 results 6")
}

// TestFuel: just as many steps are made as fuel says, and where they are made Fuel is told, even where a breakpoint is reached.
func TestFuel(t *testing.T) {
	m, s := counting()
	d := bugged(t, m, nil, s)
	used := int64(0)
	for fuel := range int64(40) {
		used += fuel
		stops(t, d, fuel, fuelled, used)
		stands(t, d, fmt.Sprint("suspended used ", used, " ", round(used)))
	}
	straight := of(">", "", "nop*9 end")
	for fuel := range int64(12) {
		d := bugged(t, straight, nil, begun(straight))
		breaks(t, d, [2]int{0, 5})
		if fuel > 5 {
			stops(t, d, fuel, broke, 5)
		} else {
			stops(t, d, fuel, fuelled, fuel)
			stops(t, d, 5-fuel, fuelled, 5)
		}
		stops(t, d, 4, fuelled, 9)
		stops(t, d, 1, over, 10)
	}
}

// TestEnds: runs of nine steps that end by an end and by each trap: Ended is told behind the last step, of any fuel that is enough; nothing goes on then, and all goes on behind a Back.
func TestEnds(t *testing.T) {
	for _, x := range []struct{ sig, code, want string }{
		{">w", "nop*7 w.const:5 end", "halted used 9 results 5"},
		{">w", "nop*7 w.const:5 return end", "halted used 9 results 5"},
		{">", "nop*8 br:0 end", "halted used 9 results"},
		{">", "nop*8 trap end", "trapped used 9 trap 1"},
		{">", "nop*7 w.const:1 w.load8u drop end", "trapped used 9 trap 2"},
		{">", "nop*6 w.const:1 w.const:0 w.divu drop nop*20 end", "trapped used 9 trap 3"},
		{">", "nop*6 l.const:-9223372036854775808 l.const:-1 l.divs drop end", "trapped used 9 trap 4"},
		{">", "nop*8 host:0 end", "trapped used 9 trap 6"},
	} {
		var m api.Module
		m.Hosts = []int{kind(&m, ">")}
		put(&m, x.sig, "", x.code)
		for _, fuel := range []int64{9, 10, 11, 1000, mostSteps - 9, mostSteps} {
			d := bugged(t, m, nil, begun(m))
			breaks(t, d, [2]int{0, 0})
			stops(t, d, fuel, over, 9)
			stands(t, d, x.want)
			for _, more := range []int64{0, 1, 9, mostSteps - 9} {
				refuses(t, d, more, api.ErrDone)
			}
			goes(t, d, 0, 0, 9)
			refuses(t, d, 1, api.ErrDone)
			goes(t, d, 1, 1, 8)
			stops(t, d, 0, fuelled, 8)
			stops(t, d, fuel-8, over, 9)
			stands(t, d, x.want)
			goes(t, d, 10, 9, 0)
			stops(t, d, 8, fuelled, 8)
			stops(t, d, 1, over, 9)
			stands(t, d, x.want)
		}
	}
}

// TestDeepEnd: a run that has no room for one more frame.
func TestDeepEnd(t *testing.T) {
	m := of(">", "", "call:0 end")
	d := bugged(t, m, nil, begun(m))
	breaks(t, d, [2]int{0, 0})
	for used := range int64(63) {
		stops(t, d, 1000, broke, used+1)
	}
	stops(t, d, 1000, over, 64)
	stands(t, d, "trapped used 64 trap 5")
	goes(t, d, 63, 63, 1)
	stands(t, d, "suspended used 1 frame 0 at 0 locals stack frame 0 at 0 locals stack")
	d.Clear(0, 0)
	stops(t, d, 1000, over, 64)
}

// TestHosts: replies are taken one by one; a run that goes back and on takes the same ones; one that has none left traps.
func TestHosts(t *testing.T) {
	m := of("w>w", "", "get:0 host:0 call:1 host:1 drop host:0 end")
	m.Hosts = []int{kind(&m, "w>w"), kind(&m, ">w")}
	put(&m, "w>w", "", "get:0 host:0 host:1 w.add end")
	script := []api.Reply{{Results: numbers("10")}, {Results: numbers("20")}, {Results: numbers("30")}, {Results: numbers("40")}, {Results: numbers("50")}, {Results: numbers("60")}}
	mid, first, last := "suspended used 6 frame 0 at 2 locals 1 stack frame 1 at 3 locals 10 stack 20 30 replies 3", "suspended used 2 frame 0 at 2 locals 1 stack 10 replies 1", "halted used 12 results 50 replies 5"
	d := bugged(t, m, script, begun(m, 1))
	breaks(t, d, [2]int{1, 3})
	for range 3 {
		stops(t, d, 99, broke, 6)
		stands(t, d, mid)
		goes(t, d, 4, 4, 2)
		stands(t, d, first)
		stops(t, d, 99, broke, 6)
		stops(t, d, 99, over, 12)
		stands(t, d, last)
		goes(t, d, 6, 6, 6)
		stands(t, d, mid)
		goes(t, d, 99, 6, 0)
	}
	short := bugged(t, m, script[:2], begun(m, 1))
	for range 3 {
		stops(t, short, 99, over, 6)
		stands(t, short, "trapped used 6 trap 6 replies 2")
		goes(t, short, 4, 4, 2)
		stands(t, short, first)
		stops(t, short, 3, fuelled, 5)
		stands(t, short, "suspended used 5 frame 0 at 2 locals 1 stack frame 1 at 2 locals 10 stack 20 replies 2")
	}
}

// TestTaken: a debug that begins where replies were taken, some of them, all, more than there are, and as many as can be told.
func TestTaken(t *testing.T) {
	m := of(">w", "", "host:0 host:0 w.add end")
	m.Hosts = []int{kind(&m, ">w")}
	script := []api.Reply{{Results: numbers("10")}, {Results: numbers("20")}, {Results: numbers("30")}}
	for taken, want := range map[int]string{
		0:             "halted used 4 results 30 replies 2",
		1:             "halted used 4 results 50 replies 3",
		2:             "trapped used 2 trap 6 replies 3",
		3:             "trapped used 1 trap 6 replies 3",
		4:             "trapped used 1 trap 6 replies 4",
		math.MaxInt64: "trapped used 1 trap 6 replies 9223372036854775807",
	} {
		s := begun(m)
		s.Replies = taken
		d := bugged(t, m, script, s)
		for range 3 {
			if why, e := d.Run(9); why != over || e != api.OK {
				t.Errorf("P28.4: %d taken: %d, %d", taken, why, e)
			}
			stands(t, d, want)
			if gone, e := d.Back(9); gone < 1 || e != api.OK || !identical(state(t, d), s) {
				t.Errorf("P28.5: %d taken: %d, %d", taken, gone, e)
			}
		}
	}
}

// TestState: the state, at any time, as often as one likes; to ask for it changes nothing.
func TestState(t *testing.T) {
	for _, x := range append(smalls(), segmented()...) {
		d := bugged(t, x.m, x.script, x.s)
		for at, want := range single(t, x, x.steps) {
			if at > 0 {
				d.Run(1)
			}
			for range 3 {
				if got := state(t, d); !identical(got, want) {
					t.Fatalf("P28.6: at %d: %s, not %s", at, show(got), show(want))
				}
			}
		}
	}
}

// TestNone: a nil debug, and one that New did not make.
func TestNone(t *testing.T) {
	var plain debug.Debug
	refused, _ := debug.New(five(), nil, api.State{})
	for _, d := range []*debug.Debug{nil, {}, new(debug.Debug), &plain, refused} {
		for range 2 {
			for _, n := range []int{math.MinInt, -1, 0, 1, 64, 65, 1 << 32, math.MaxInt} {
				if d.Break(0, n) != api.ErrArg || d.Break(n, 0) != api.ErrArg || d.Watch(n, 1) != api.ErrArg || d.Watch(0, n) != api.ErrArg {
					t.Errorf("P28.6: %d: not ErrArg", n)
				}
				if d.Clear(0, n) || d.Clear(n, 0) {
					t.Errorf("P28.6: Clear of %d", n)
				}
			}
			d.Unwatch()
			for _, n := range []int64{math.MinInt64, -1, 0, 1, mostSteps, mostSteps + 1, math.MaxInt64} {
				if why, e := d.Run(n); why != 0 || e != api.ErrArg {
					t.Errorf("P28.6: Run(%d): %d, %d", n, why, e)
				}
				if gone, e := d.Back(n); gone != 0 || e != api.ErrArg {
					t.Errorf("P28.6: Back(%d): %d, %d", n, gone, e)
				}
			}
			if s, e := d.State(); e != api.ErrArg || !identical(s, api.State{}) {
				t.Errorf("P28.6: State: %d", e)
			}
		}
	}
}

package back_test

import (
	"fmt"
	"math"
	"testing"

	"flagon/api"
	"flagon/back"
	"flagon/text"
)

// five is the chapter's second example.
func five() api.Module {
	return of(">w", "", "w.const:5 end")
}

// TestExamples: the chapter's.
func TestExamples(t *testing.T) {
	m := of(">", "", "loop:> br:0 end end")
	x := taped(t, m, nil, begun(m), 4)
	comes(t, x, 10, "suspended used 10 frame 0 at 1 locals stack", 10, "0 4 8")
	comes(t, x, 3, "suspended used 3 frame 0 at 1 locals stack", 3, "0 4 8")
	stays(t, x, 4001, api.ErrMany)
	stays(t, x, -1, api.ErrArg)
	stands(t, x, 3, "0 4 8")
	y := taped(t, five(), nil, begun(five()), 4)
	comes(t, y, 9, "halted used 2 results 5", 2, "0")
}

// TestNew: a new tape stands at its step 0, and keeps that state alone, whatever the state and whatever its Used is.
func TestNew(t *testing.T) {
	for _, x := range append(smalls(), segmented()...) {
		for _, every := range []int{1, 2, 7, 1000, math.MaxInt32, math.MaxInt32 + 1, math.MaxInt64} {
			tape := taped(t, x.m, x.script, x.s, every)
			stands(t, tape, 0, "0")
			for range 2 {
				if got := went(t, tape, 0); !identical(got, x.s) {
					t.Errorf("P25.2: Go(0): %s, not %s", show(got), show(x.s))
				}
				stands(t, tape, 0, "0")
			}
		}
	}
}

// TestFive: the second example's module, told by hand.
func TestFive(t *testing.T) {
	ahead, between, behind := "suspended used 0 frame 0 at 0 locals stack", "suspended used 1 frame 0 at 1 locals stack 5", "halted used 2 results 5"
	for every, kept := range map[int][3]string{1: {"0", "0 1", "0 1 2"}, 2: {"0", "0", "0 2"}, 3: {"0", "0", "0"}, 1000: {"0", "0", "0"}} {
		x := taped(t, five(), nil, begun(five()), every)
		comes(t, x, 0, ahead, 0, kept[0])
		comes(t, x, 1, between, 1, kept[1])
		comes(t, x, 0, ahead, 0, kept[1])
		comes(t, x, 2, behind, 2, kept[2])
		comes(t, x, 3, behind, 2, kept[2])
		comes(t, x, 1000, behind, 2, kept[2])
		comes(t, x, 1, between, 1, kept[2])
		comes(t, x, 0, ahead, 0, kept[2])
		comes(t, x, 999, behind, 2, kept[2])
	}
}

// TestOnAndBack: on, back, to the same step twice, to multiples of every and beside them.
func TestOnAndBack(t *testing.T) {
	m, s := counting()
	for _, way := range []struct {
		every int
		steps []int64
		kept  []string
	}{
		{4, []int64{3, 4, 5, 4, 4, 3, 8, 7, 0, 12, 11, 1, 16}, []string{"0", "0 4", "0 4", "0 4", "0 4", "0 4", "0 4 8", "0 4 8", "0 4 8", "0 4 8 12", "0 4 8 12", "0 4 8 12", "0 4 8 12 16"}},
		{1, []int64{1, 0, 3, 2, 3, 3, 4, 1}, []string{"0 1", "0 1", "0 1 2 3", "0 1 2 3", "0 1 2 3", "0 1 2 3", "0 1 2 3 4", "0 1 2 3 4"}},
		{10, []int64{9, 9, 8, 9, 10, 9, 11, 35, 20, 19, 21, 29, 30, 39, 40}, []string{"0", "0", "0", "0", "0 10", "0 10", "0 10", "0 10 20 30", "0 10 20 30", "0 10 20 30", "0 10 20 30", "0 10 20 30", "0 10 20 30", "0 10 20 30", "0 10 20 30 40"}},
		{100, []int64{250, 50, 99, 100, 101, 300, 299, 301, 2, 1}, []string{"0 100 200", "0 100 200", "0 100 200", "0 100 200", "0 100 200", "0 100 200 300", "0 100 200 300", "0 100 200 300", "0 100 200 300", "0 100 200 300"}},
		{math.MaxInt64, []int64{100000, 99999, 100001, 3, 3}, []string{"0", "0", "0", "0", "0"}},
	} {
		x := taped(t, m, nil, s, way.every)
		for at, to := range way.steps {
			comes(t, x, to, fmt.Sprint("suspended used ", to, " ", round(to)), to, way.kept[at])
		}
	}
}

// TestMultiples: a step that is told is not kept for that alone: Go to 2 steps, of every 4, keeps none.
func TestMultiples(t *testing.T) {
	m, s := counting()
	s.Used = 3 // what a state has used before counts for nothing
	x := taped(t, m, nil, s, 4)
	comes(t, x, 1, "suspended used 4 "+round(1), 1, "0")
	comes(t, x, 2, "suspended used 5 "+round(2), 2, "0")
	comes(t, x, 5, "suspended used 8 "+round(5), 5, "0 4")
	comes(t, x, 4, "suspended used 7 "+round(4), 4, "0 4")
}

// TestEnds: runs of nine steps that end by an end and by traps, of each every up to more than that: beyond the end, and back from there.
func TestEnds(t *testing.T) {
	keeps := []string{"", "0 1 2 3 4 5 6 7 8 9", "0 2 4 6 8", "0 3 6 9", "0 4 8", "0 5", "0 6", "0 7", "0 8", "0 9", "0", "0"}
	for _, x := range []struct{ sig, code, want string }{
		{">w", "nop*7 w.const:5 end", "halted used 9 results 5"},
		{">w", "nop*7 w.const:5 return end", "halted used 9 results 5"},
		{">", "nop*8 br:0 end", "halted used 9 results"},
		{">", "nop*8 trap end", "trapped used 9 trap 1"},
		{">", "nop*7 w.const:1 w.load8u drop end", "trapped used 9 trap 2"},
		{">", "nop*6 w.const:1 w.const:0 w.divu drop nop*20 end", "trapped used 9 trap 3"},
		{">", "nop*6 l.const:-9223372036854775808 l.const:-1 l.divs drop end", "trapped used 9 trap 4"},
		{">", "nop*8 host:0 end", "trapped used 9 trap 6"},
	} {
		var m api.Module
		m.Hosts = []int{kind(&m, ">")}
		put(&m, x.sig, "", x.code)
		for every := 1; every < len(keeps); every++ {
			most, kept := int64(every)*mostBack, keeps[every]
			for _, beyond := range []int64{9, 10, 12, 500, most} {
				tape := taped(t, m, nil, begun(m), every)
				comes(t, tape, beyond, x.want, 9, kept)
				comes(t, tape, beyond, x.want, 9, kept)
				comes(t, tape, 4, "suspended used 4 frame 0 at 4 locals stack", 4, kept)
				comes(t, tape, 9, x.want, 9, kept)
				comes(t, tape, 0, "suspended used 0 frame 0 at 0 locals stack", 0, kept)
				comes(t, tape, most, x.want, 9, kept)
				stays(t, tape, most+1, api.ErrMany)
				stays(t, tape, -1, api.ErrArg)
				comes(t, tape, 6, "suspended used 6 frame 0 at 6 locals stack", 6, kept)
			}
		}
	}
}

// TestDeepEnd: a run that has no room for one more frame.
func TestDeepEnd(t *testing.T) {
	m := of(">", "", "call:0 end")
	for every, kept := range map[int]string{16: "0 16 32 48 64", 63: "0 63", 64: "0 64", 65: "0"} {
		x := taped(t, m, nil, begun(m), every)
		comes(t, x, 1000, "trapped used 64 trap 5", 64, kept)
		comes(t, x, 1, "suspended used 1 frame 0 at 0 locals stack frame 0 at 0 locals stack", 1, kept)
		comes(t, x, 65, "trapped used 64 trap 5", 64, kept)
		if s := went(t, x, 63); len(s.Frames) != 64 || s.Used != 63 {
			t.Errorf("W7: %s", show(s))
		}
	}
}

// TestHosts: going back and on again takes the script's same replies.
func TestHosts(t *testing.T) {
	m := of("w>w", "", "get:0 host:0 call:1 host:1 drop host:0 end")
	m.Hosts = []int{kind(&m, "w>w"), kind(&m, ">w")}
	put(&m, "w>w", "", "get:0 host:0 host:1 w.add end")
	script := []api.Reply{{Results: numbers("10")}, {Results: numbers("20")}, {Results: numbers("30")}, {Results: numbers("40")}, {Results: numbers("50")}, {Results: numbers("60")}}
	mid, first, last := "suspended used 6 frame 0 at 2 locals 1 stack frame 1 at 3 locals 10 stack 20 30 replies 3", "suspended used 2 frame 0 at 2 locals 1 stack 10 replies 1", "halted used 12 results 50 replies 5"
	for every := 1; every < 15; every++ {
		x := taped(t, m, script, begun(m, 1), every)
		for _, to := range []int64{6, 2, 12, 6, 500, 2, 2, 6, 13} {
			want := map[int64]string{2: first, 6: mid, 12: last, 13: last, 500: last}[to]
			if got := show(went(t, x, to)); got != want {
				t.Errorf("W7: every %d: Go(%d): %s, not %s", every, to, got, want)
			}
		}
		short := taped(t, m, script[:2], begun(m, 1), every)
		for _, to := range []int64{7, 2, 6, 5, 100, 1, 8} {
			want := map[int64]string{1: "suspended used 1 frame 0 at 1 locals 1 stack 1", 2: first, 5: "suspended used 5 frame 0 at 2 locals 1 stack frame 1 at 2 locals 10 stack 20 replies 2"}[to]
			if want == "" {
				want = "trapped used 6 trap 6 replies 2"
			}
			if got := show(went(t, short, to)); got != want {
				t.Errorf("W7: every %d: Go(%d): %s, not %s", every, to, got, want)
			}
		}
	}
}

// TestTaken: a tape that begins where replies were taken, some of them, all, more than there are, and as many as can be told.
func TestTaken(t *testing.T) {
	m := of(">w", "", "host:0 host:0 w.add end")
	m.Hosts = []int{kind(&m, ">w")}
	script := []api.Reply{{Results: numbers("10")}, {Results: numbers("20")}, {Results: numbers("30")}}
	for taken, want := range map[int]string{
		0:             "halted used 4 results 30 replies 2",
		1:             "halted used 4 results 50 replies 3",
		2:             "trapped used 2 trap 6 replies 3",
		3:             "trapped used 1 trap 6 replies 3",
		4:             "trapped used 1 trap 6 replies 4",
		math.MaxInt64: "trapped used 1 trap 6 replies 9223372036854775807",
	} {
		for every := 1; every < 6; every++ {
			s := begun(m)
			s.Replies = taken
			x := taped(t, m, script, s, every)
			for range 3 {
				if got := show(went(t, x, 9)); got != want {
					t.Errorf("W7: every %d, %d taken: %s, not %s", every, taken, got, want)
				}
				if got := went(t, x, 0); !identical(got, s) {
					t.Errorf("W7: every %d, %d taken: %s", every, taken, show(got))
				}
			}
		}
	}
}

// TestMostUsed: Used stops at 2^62, and the steps are told all the same.
func TestMostUsed(t *testing.T) {
	m, s := counting()
	for _, used := range []int64{1, 1 << 61, mostUsed - 1000, mostUsed - 14, mostUsed - 13, mostUsed - 3, mostUsed - 1, mostUsed} {
		s.Used = used
		x := taped(t, m, nil, s, 4)
		for _, to := range []int64{14, 3, 13, 0, 12, 14, 1} {
			comes(t, x, to, fmt.Sprint("suspended used ", min(used+to, mostUsed), " ", round(to)), to, "0 4 8 12")
		}
	}
	for word, code := range map[string]string{"halted used %d results": "nop*19 end", "trapped used %d trap 1": "nop*19 trap end"} {
		m := of(">", "", code)
		for below := range int64(25) {
			s := begun(m)
			s.Used = mostUsed - below
			x := taped(t, m, nil, s, 5)
			for range 2 {
				comes(t, x, 100, fmt.Sprintf(word, min(mostUsed, s.Used+20)), 20, "0 5 10 15 20")
				comes(t, x, 7, fmt.Sprint("suspended used ", min(mostUsed, s.Used+7), " frame 0 at 7 locals stack"), 7, "0 5 10 15 20")
			}
		}
	}
}

// TestLong: as far as a tape goes, and back again.
func TestLong(t *testing.T) {
	m, s := counting()
	for _, every := range []int{1, 3, 1000, 4321} {
		most := int64(every) * mostBack
		var all []int64
		for k := range int64(mostBack + 1) {
			all = append(all, k*int64(every))
		}
		kept := told(all)
		x := taped(t, m, nil, s, every)
		for _, to := range []int64{most, most - 1, most, most / 2, most/2 - 1, 1, 0, most} {
			comes(t, x, to, fmt.Sprint("suspended used ", to, " ", round(to)), to, kept)
			stays(t, x, most+1, api.ErrMany)
		}
	}
}

// parsed is the module of a text of chapter 6.
func parsed(t *testing.T, source string) api.Module {
	t.Helper()
	m, e, line := text.Parse(source)
	if e != api.OK {
		t.Fatalf("%d at %d", e, line)
	}
	return m
}

// TestWhole: states that the document's examples of the whole tell, come to from either side.
func TestWhole(t *testing.T) {
	down := parsed(t, "flagon\ntype - -> -\ntype w -> w\nmemory 0 0\nfunc 1 -\n  loop 0\n    get 0\n    w.const 1\n    w.sub\n    tee 0\n    brif 0\n  end\n  w.const 7\n  end\nexport down 0\n")
	x := taped(t, down, nil, begun(down, 3), 5)
	comes(t, x, 108, "halted used 19 results 7", 19, "0 5 10 15")
	comes(t, x, 8, "suspended used 8 frame 0 at 3 locals 2 stack 2 1", 8, "0 5 10 15")
	fact := parsed(t, "flagon\ntype l -> l\ntype - -> l\nmemory 0 0\nfunc 0 -\n  get 0\n  l.eqz\n  if 1\n    l.const 1\n  else\n    get 0\n    get 0\n    l.const 1\n    l.sub\n    call 0\n    l.mul\n  end\n  end\nexport fact 0\n")
	x = taped(t, fact, nil, begun(fact, 5), 7)
	comes(t, x, 1020, "halted used 62 results 120", 62, "0 7 14 21 28 35 42 49 56")
	comes(t, x, 20, "suspended used 20 frame 0 at 9 locals 5 stack 5 frame 0 at 9 locals 4 stack 4 frame 0 at 6 locals 3 stack 3", 20, "0 7 14 21 28 35 42 49 56")
	memory := parsed(t, "flagon\ntype - -> w\nmemory 1 2\nfunc 0 -\n  w.const 8\n  w.const -2\n  w.store 4\n  w.const 1\n  grow\n  end\nexport main 0\n")
	s := begun(memory)
	s.Pages[0][16], s.Pages[0][17] = 7, 255
	x = taped(t, memory, nil, s, 2)
	comes(t, x, 12, "halted used 6 results 1 pages 2 6", 6, "0 2 4 6")
	comes(t, x, 3, "suspended used 3 frame 0 at 3 locals stack pages 1 6", 3, "0 2 4 6")
	comes(t, x, 2, "suspended used 2 frame 0 at 2 locals stack 8 4294967294 pages 1 2", 2, "0 2 4 6")
}

// TestNone: a nil tape, and one that New did not make.
func TestNone(t *testing.T) {
	var plain back.Tape
	for _, x := range []*back.Tape{nil, {}, new(back.Tape), &plain} {
		for range 2 {
			for _, to := range []int64{math.MinInt64, -1, 0, 1, 1000, 1001, furthest, furthest + 1, math.MaxInt64} {
				if s, e := x.Go(to); e != api.ErrArg || !identical(s, api.State{}) {
					t.Errorf("P25.4: Go(%d): %d, %v", to, e, s)
				}
			}
			if at, kept := x.At(), x.Kept(); at != 0 || len(kept) != 0 {
				t.Errorf("P25.4: at %d, kept %v", at, kept)
			}
		}
	}
	x, _ := back.New(five(), nil, begun(five()), 0)
	if s, e := x.Go(0); x != nil || e != api.ErrArg || s.End != 0 || x.At() != 0 || x.Kept() != nil {
		t.Errorf("P25.4: what a New that refuses answers: %d, %v", e, s)
	}
}

// TestLimits: the program's limits are the document's.
func TestLimits(t *testing.T) {
	if api.MaxBack != mostBack || api.MaxUsed != mostUsed || api.Page != size || api.MaxFrames != most64 {
		t.Error("P25.2: other limits")
	}
}

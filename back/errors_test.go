package back_test

import (
	"math"
	"math/rand"
	"slices"
	"testing"

	"flagon/api"
	"flagon/back"
	"flagon/slow"
)

func turned(s api.State, change func(s *api.State)) api.State {
	s = cloned(s)
	change(&s)
	return s
}

// outs: states of rich that may not be, at least one of each place of chapter 14.
func outs() []api.State {
	var list []api.State
	for _, s := range []api.State{deep(), ended(halted), ended(trapped)} {
		for _, change := range []func(s *api.State){
			func(s *api.State) { s.End = 0 },
			func(s *api.State) { s.End = 4 },
			func(s *api.State) { s.End = -1 },
			func(s *api.State) { s.End = s.End%3 + 1 },
			func(s *api.State) { s.Frames = slices.Repeat([]api.Frame{{Locals: []uint64{0, 0}}}, 65) },
			func(s *api.State) { s.Results = make([]uint64, 9) },
			func(s *api.State) { s.Trap = 7 },
			func(s *api.State) { s.Used = -1 },
			func(s *api.State) { s.Used = math.MinInt64 },
			func(s *api.State) { s.Used = mostUsed + 1 },
			func(s *api.State) { s.Used = math.MaxInt64 },
			func(s *api.State) { s.Replies = -1 },
			func(s *api.State) { s.Globals = nil },
			func(s *api.State) { s.Globals[0] = high },
			func(s *api.State) { s.Globals[1] = 0 },
			func(s *api.State) { s.Pages = nil },
			func(s *api.State) { s.Pages = blank(4) },
			func(s *api.State) { s.Pages[1] = s.Pages[1][1:] },
		} {
			list = append(list, turned(s, change))
		}
	}
	for _, change := range []func(s *api.State){
		func(s *api.State) { s.Frames = nil },
		func(s *api.State) { s.Frames = s.Frames[:1] },
		func(s *api.State) { s.Frames[0].Pc = 2 },
		func(s *api.State) { s.Frames[0].Stack = []uint64{7} },
		func(s *api.State) { s.Frames[1].Pc = -1 },
		func(s *api.State) { s.Frames[1].Pc = 12 },
		func(s *api.State) { s.Frames[1].Function = 2 },
		func(s *api.State) { s.Frames[1].Function = -1 },
		func(s *api.State) { s.Frames[1].Locals = nil },
		func(s *api.State) { s.Frames[1].Locals[0] = high },
		func(s *api.State) { s.Frames[1].Stack = []uint64{7} },
		func(s *api.State) { s.Frames[1].Stack[0] = high },
	} {
		list = append(list, turned(deep(), change))
	}
	return append(list, api.State{})
}

// overs: states of rich that have ended, with each trap, with none, some and as many results as may be.
func overs() []api.State {
	list := []api.State{ended(halted), turned(ended(halted), func(s *api.State) { s.Results = nil }), turned(ended(halted), func(s *api.State) { s.Results, s.Used = make([]uint64, 8), mostUsed })}
	for trap := int8(trapOp); trap <= trapHost; trap++ {
		list = append(list, turned(ended(trapped), func(s *api.State) { s.Trap = trap }))
	}
	return list
}

// none: numbers that no every can be.
func none() []int {
	return []int{0, -1, -2, -1000, math.MinInt32, -1 << 32, -1 << 61, math.MinInt64 + 1, math.MinInt64}
}

// nothing: is that error answered, and nothing beside it?
func nothing(t *testing.T, m api.Module, script []api.Reply, s api.State, every int, want api.Errno) {
	t.Helper()
	if x, e := back.New(m, script, s, every); e != want || x != nil {
		t.Fatalf("P25.1: every %d: %d, %t, not %d", every, e, x != nil, want)
	}
}

// barred: does the error of slow.Run with the fuel 0 stand ahead of that of an every below 1?
func barred(t *testing.T, m api.Module, script []api.Reply, s api.State, want api.Errno) {
	t.Helper()
	if _, e := slow.Run(m, script, s, 0); e != want {
		t.Fatalf("P17.1: %d, not %d", e, want)
	}
	for _, every := range append(none(), 1, 2, 1000, math.MaxInt32, math.MaxInt64) {
		nothing(t, m, script, s, every, want)
	}
}

// damages: changes of rich by which it may not run, and the errors of that.
func damages() []struct {
	e      api.Errno
	change func(m *api.Module)
} {
	return []struct {
		e      api.Errno
		change func(m *api.Module)
	}{
		{api.ErrType, func(m *api.Module) { m.Types[0].Params = "x" }},
		{api.ErrTwice, func(m *api.Module) { m.Types[1] = m.Types[0] }},
		{api.ErrIndex, func(m *api.Module) { m.Hosts[0] = 9 }},
		{api.ErrRange, func(m *api.Module) { m.Globals[0].Value = high }},
		{api.ErrRange, func(m *api.Module) { m.First = -1 }},
		{api.ErrRange, func(m *api.Module) { m.Most = 65 }},
		{api.ErrIndex, func(m *api.Module) { m.Functions[0].Type = -1 }},
		{api.ErrOp, func(m *api.Module) { m.Functions[1].Code[0].Op = 0xff }},
		{api.ErrName, func(m *api.Module) { m.Exports = []api.Export{{}} }},
		{api.ErrCut, func(m *api.Module) { m.Functions[1].Code = nil }},
		{api.ErrRest, func(m *api.Module) { m.Functions[1].Code = append(m.Functions[1].Code, api.Ins{Op: 0x06}) }},
		{api.ErrElse, func(m *api.Module) { m.Functions[0].Code[3] = api.Ins{Op: 0x05} }},
		{api.ErrStack, func(m *api.Module) { m.Functions[0].Code[0] = api.Ins{Op: 0x01} }},
		{api.ErrIndex, func(m *api.Module) { m.Functions[0].Code[1].A = 2 }},
		{api.ErrMutable, func(m *api.Module) { m.Functions[1].Code[2].A = 1 }},
		{api.ErrDead, func(m *api.Module) { m.Functions[1].Code[0] = api.Ins{Op: 0x00} }},
		{api.ErrLabel, func(m *api.Module) { m.Functions[1].Code[0] = api.Ins{Op: 0x07, A: 9} }},
	}
}

// TestModuleFirst: validate.Module's error stands ahead of those of the state and of the every.
func TestModuleFirst(t *testing.T) {
	for _, x := range damages() {
		m := rich()
		x.change(&m)
		for _, s := range append(append(overs(), deep(), api.State{}), outs()...) {
			barred(t, m, nil, s, x.e)
		}
	}
}

// TestStates: ErrState of a state that may not be, ahead of ErrDone and ErrArg.
func TestStates(t *testing.T) {
	for _, s := range outs() {
		barred(t, rich(), []api.Reply{{}, {Trap: true}, {}}, s, api.ErrState)
	}
	barred(t, of(">", "", "nop end"), nil, deep(), api.ErrState)
	barred(t, rich(), nil, begun(of(">", "", "nop end")), api.ErrState)
	barred(t, rich(), nil, api.State{End: halted}, api.ErrState)
	barred(t, api.Module{}, nil, api.State{}, api.ErrState)
	barred(t, api.Module{}, nil, api.State{End: suspended}, api.ErrState)
	barred(t, api.Module{}, nil, api.State{End: suspended, Frames: []api.Frame{{}}}, api.ErrState)
}

// TestDone: ErrDone of what has ended, ahead of ErrArg; of what a tape came to at its end, too.
func TestDone(t *testing.T) {
	for _, s := range overs() {
		barred(t, rich(), []api.Reply{{}}, s, api.ErrDone)
	}
	barred(t, api.Module{}, nil, api.State{End: halted}, api.ErrDone)
	barred(t, api.Module{}, nil, api.State{End: trapped, Trap: trapHost}, api.ErrDone)
	for _, x := range smalls() {
		if s := went(t, taped(t, x.m, x.script, x.s, 9), 70); s.End != suspended {
			barred(t, x.m, x.script, s, api.ErrDone)
		}
	}
}

// TestEvery: ErrArg of an every below 1, where nothing else is wrong.
func TestEvery(t *testing.T) {
	for _, x := range append(smalls(), segmented()...) {
		for _, every := range none() {
			nothing(t, x.m, x.script, x.s, every, api.ErrArg)
		}
		stands(t, taped(t, x.m, x.script, x.s, 1), 0, "0")
	}
}

// TestPairs: of two faults at one time the one that the chapter names first is told.
func TestPairs(t *testing.T) {
	type call struct {
		m     api.Module
		s     api.State
		every int
	}
	faults := []struct {
		e   api.Errno
		put func(x *call)
	}{
		{api.ErrStack, func(x *call) { x.m.Functions[0].Code[0] = api.Ins{Op: 0x01} }},
		{api.ErrState, func(x *call) { x.s.Used = -1 }},
		{api.ErrDone, func(x *call) { x.s.Frames, x.s.End, x.s.Trap = nil, trapped, trapOp }},
		{api.ErrArg, func(x *call) { x.every = 0 }},
	}
	for a, first := range faults {
		for _, second := range faults[a:] {
			x := call{rich(), deep(), 4}
			second.put(&x)
			first.put(&x)
			nothing(t, x.m, nil, x.s, x.every, first.e)
		}
	}
	x := call{rich(), deep(), 4}
	for at := range faults {
		fault := faults[len(faults)-1-at]
		fault.put(&x)
		nothing(t, x.m, nil, x.s, x.every, fault.e)
	}
}

// TestDrawnErrors: what may not run, what may not be, what has ended, and everies below 1, all of them drawn.
func TestDrawnErrors(t *testing.T) {
	r := rand.New(rand.NewSource(251))
	errs := map[api.Errno]int{}
	for range 1500 {
		m := drawnModule(r)
		s := drawnState(r, m)
		damaged(r, &m, &s)
		every := 1 + r.Intn(9)
		if r.Intn(3) == 0 {
			every = -r.Intn(3)
		}
		_, want := slow.Run(m, nil, s, 0)
		if want == api.OK && every < 1 {
			want = api.ErrArg
		}
		errs[want]++
		if want != api.OK {
			nothing(t, m, nil, s, every, want)
			continue
		}
		stands(t, taped(t, m, nil, s, every), 0, "0")
	}
	for _, e := range []api.Errno{api.OK, api.ErrArg, api.ErrState, api.ErrDone, api.ErrOp, api.ErrIndex, api.ErrStack, api.ErrCut, api.ErrRange, api.ErrDead} {
		if errs[e] < 5 {
			t.Errorf("the error %d %d times: %v", e, errs[e], errs)
		}
	}
}

// below: steps that there are not.
func below() []int64 {
	return []int64{-1, -2, -1000, math.MinInt32, -1 << 32, math.MinInt64 + 1, math.MinInt64}
}

// TestBelow: Go below 0, wherever the tape stands.
func TestBelow(t *testing.T) {
	m, s := counting()
	for _, every := range []int{1, 4, 1000, math.MaxInt64} {
		x := taped(t, m, nil, s, every)
		for _, at := range []int64{0, 1, 9, 4, 0} {
			went(t, x, at)
			for _, to := range below() {
				stays(t, x, to, api.ErrArg)
			}
			if got := show(went(t, x, at+1)); got != "suspended used "+told([]int64{at + 1})+" "+round(at+1) {
				t.Errorf("P25.2: behind a Go that was refused: %s", got)
			}
		}
	}
}

// TestFurthest: each every's furthest step, and one beyond it: every times MaxBack, or 2^31 - 1, also where that product does not fit, in 32 bits or in 64. The run ends early, so all of them are its end.
func TestFurthest(t *testing.T) {
	want := "halted used 2 results 5"
	for every, most := range map[int]int64{
		1:                       1000,
		2:                       2000,
		3:                       3000,
		4:                       4000,
		999:                     999000,
		1000:                    1000000,
		2147482:                 2147482000,
		2147483:                 2147483000,
		2147484:                 furthest, // the first one whose thousandfold is above it
		4294967:                 furthest,
		4294968:                 furthest, // its thousandfold is 704 above 2^32
		1 << 29:                 furthest, // as 32 bits its thousandfold is 0
		math.MaxInt32 - 1:       furthest,
		math.MaxInt32:           furthest,
		math.MaxInt32 + 1:       furthest,
		1 << 32:                 furthest,
		1 << 61:                 furthest, // as 64 bits its thousandfold is 0
		math.MaxInt64 / 1000:    furthest,
		math.MaxInt64/1000 + 1:  furthest,
		18446744073709552:       furthest, // as 64 bits its thousandfold is 384
		math.MaxInt64 - 1:       furthest,
		math.MaxInt64:           furthest,
		math.MaxInt64/2 + 1:     furthest,
		math.MaxInt64 / 999:     furthest,
		math.MaxInt64/1000 - 10: furthest,
	} {
		x := taped(t, five(), nil, begun(five()), every)
		kept := map[int]string{1: "0 1 2", 2: "0 2"}[every]
		if kept == "" {
			kept = "0"
		}
		for _, to := range []int64{most + 1, most + 2, 2*most + 1, 1 << 31, 1 << 32, 1<<32 + 1, math.MaxInt64} {
			stays(t, x, to, api.ErrMany)
			stands(t, x, 0, "0")
		}
		comes(t, x, most, want, 2, kept)
		stays(t, x, most+1, api.ErrMany)
		comes(t, x, 1, "suspended used 1 frame 0 at 1 locals stack 5", 1, kept)
		stays(t, x, most+1, api.ErrMany)
		stays(t, x, math.MaxInt64, api.ErrMany)
		stays(t, x, -1, api.ErrArg)
		comes(t, x, most-1, want, 2, kept)
		stays(t, x, most+1, api.ErrMany)
		comes(t, x, 0, "suspended used 0 frame 0 at 0 locals stack", 0, kept)
	}
}

// TestRefused: a Go that is refused leaves no trace: what the tape comes to afterwards is as without it.
func TestRefused(t *testing.T) {
	for _, x := range append(smalls(), segmented()...) {
		way := single(t, x, x.steps)
		p := paired(t, x, way, 3)
		for n := range len(way) {
			for _, to := range []int64{-1, 3001, furthest + 1, math.MinInt64, math.MaxInt64} {
				p.tape.Go(to)
				p.agrees(t)
			}
			p.move(t, []int{n, 0, len(way) - 1 - n}[n%3])
		}
	}
}

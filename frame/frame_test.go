package frame_test

import (
	"math"
	"slices"
	"testing"

	"flagon/api"
	"flagon/frame"
)

// TestExamples: the chapter's.
func TestExamples(t *testing.T) {
	k := five(t)
	is := func(place int, change func(s *api.State)) {
		t.Helper()
		k.is(t, turned(begun(), change), place)
	}
	is(0, func(s *api.State) {})
	is(1, func(s *api.State) { s.End = 0 })
	is(2, func(s *api.State) { s.Frames = nil })
	is(2, func(s *api.State) { s.End = halted })
	is(5, func(s *api.State) { s.Used = -1 })
	is(8, func(s *api.State) { s.Pages = blank(3) })
	is(8, func(s *api.State) { s.Pages[0] = s.Pages[0][:5] })
	is(9, func(s *api.State) { s.Frames[0].Pc = 1 })
	is(0, func(s *api.State) { s.Frames[0].Pc, s.Frames[0].Stack = 1, []uint64{5} })
	is(9, func(s *api.State) { s.Frames[0].Pc, s.Frames[0].Stack = 1, []uint64{high} })
	is(9, func(s *api.State) { s.Frames[0].Pc = 2 })
	is(0, func(s *api.State) { s.End, s.Frames, s.Results = halted, nil, []uint64{5} })
}

// TestEnd: place 1, of all values of End.
func TestEnd(t *testing.T) {
	k := rich(t)
	for _, s := range ends() {
		k.is(t, s, 0)
		for end := math.MinInt8; end <= math.MaxInt8; end++ {
			if end >= suspended && end <= trapped {
				continue
			}
			k.is(t, turned(s, func(s *api.State) { s.End = int8(end) }), 1)
		}
	}
}

// tower: so many frames of function 2 of rich, each of which has called itself, but for the last one, which stands at its beginning.
func tower(count int) []api.Frame {
	frames := make([]api.Frame, count)
	for at := range frames {
		frames[at] = api.Frame{Function: 2, Pc: 1, Locals: []uint64{uint64(at), 0}}
	}
	if count > 0 {
		frames[count-1].Pc = 0
	}
	return frames
}

// TestFrames: place 2: 1 to 64 of what is suspended, none of what is not.
func TestFrames(t *testing.T) {
	k := rich(t)
	for _, s := range ends() {
		for _, count := range []int{0, 1, 2, 63, 64, 65, 66, 128, 1000} {
			place := 2
			if s.End == suspended && count >= 1 && count <= most64 || s.End != suspended && count == 0 {
				place = 0
			}
			k.is(t, turned(s, func(s *api.State) { s.Frames = tower(count) }), place)
			if count == 0 {
				k.is(t, turned(s, func(s *api.State) { s.Frames = []api.Frame{} }), place)
			}
		}
	}
}

// TestResults: place 3: at most 8 of what has halted, whatever they are; none else.
func TestResults(t *testing.T) {
	k := rich(t)
	for _, s := range ends() {
		for count := range 20 {
			place := 3
			if count == 0 || s.End == halted && count <= 8 {
				place = 0
			}
			for _, v := range []uint64{0, high, math.MaxUint64} {
				k.is(t, turned(s, func(s *api.State) { s.Results = slices.Repeat([]uint64{v}, count) }), place)
			}
		}
	}
}

// TestTrap: place 4, of all values of Trap.
func TestTrap(t *testing.T) {
	k := rich(t)
	for _, s := range ends() {
		for trap := math.MinInt8; trap <= math.MaxInt8; trap++ {
			place := 4
			if s.End == trapped && trap >= 1 && trap <= 6 || s.End != trapped && trap == 0 {
				place = 0
			}
			k.is(t, turned(s, func(s *api.State) { s.Trap = int8(trap) }), place)
		}
	}
}

// TestUsed: place 5.
func TestUsed(t *testing.T) {
	k := rich(t)
	for _, s := range ends() {
		for _, used := range []int64{0, 1, 77, high, mostUsed - 1, mostUsed} {
			k.is(t, turned(s, func(s *api.State) { s.Used = used }), 0)
		}
		for _, used := range []int64{-1, -2, -mostUsed, mostUsed + 1, math.MaxInt64, math.MinInt64} {
			k.is(t, turned(s, func(s *api.State) { s.Used = used }), 5)
		}
	}
}

// TestReplies: place 6; there is no bound above.
func TestReplies(t *testing.T) {
	k := rich(t)
	for _, s := range ends() {
		for _, replies := range []int{0, 1, high, math.MaxInt} {
			k.is(t, turned(s, func(s *api.State) { s.Replies = replies }), 0)
		}
		for _, replies := range []int{-1, -2, math.MinInt} {
			k.is(t, turned(s, func(s *api.State) { s.Replies = replies }), 6)
		}
	}
}

// TestGlobals: place 7: their number, their letters, and those that are not mutable.
func TestGlobals(t *testing.T) {
	k := rich(t)
	none := five(t)
	for _, x := range []struct {
		place int
		l     []uint64
	}{
		{0, []uint64{0, math.MaxUint64, 0, 7}},
		{0, []uint64{high - 1, math.MaxUint64, math.MaxUint64, 7}},
		{0, []uint64{5, math.MaxUint64, high, 7}},
		{7, []uint64{high, math.MaxUint64, 0, 7}},
		{7, []uint64{1 << 63, math.MaxUint64, 0, 7}},
		{7, []uint64{math.MaxUint64, math.MaxUint64, 0, 7}},
		{7, []uint64{5, math.MaxUint64 - 1, 0, 7}},
		{7, []uint64{5, high - 1, 0, 7}},
		{7, []uint64{5, 0, 0, 7}},
		{7, []uint64{5, math.MaxUint64, 0, 8}},
		{7, []uint64{5, math.MaxUint64, 0, 0}},
		{7, []uint64{5, math.MaxUint64, 0, high + 7}},
		{7, []uint64{5, math.MaxUint64, 0}},
		{7, []uint64{5, math.MaxUint64, 0, 7, 0}},
		{7, []uint64{5}},
		{7, []uint64{}},
		{7, nil},
		{7, make([]uint64, 1000)},
	} {
		for _, s := range ends() {
			k.is(t, turned(s, func(s *api.State) { s.Globals = x.l }), x.place)
		}
		s := turned(begun(), func(s *api.State) { s.Globals = x.l })
		if len(x.l) > 0 {
			none.is(t, s, 7)
		} else {
			none.is(t, s, 0)
		}
	}
}

// TestPages: place 8: from First to Most of them, whatever ended the run.
func TestPages(t *testing.T) {
	k := rich(t)
	for _, s := range ends() {
		for _, bounds := range [][2]int{{0, 0}, {0, 2}, {1, 1}, {2, 4}, {63, 64}, {64, 64}} {
			k.m.First, k.m.Most = bounds[0], bounds[1]
			for _, count := range []int{0, 1, 2, 3, 4, 5, 62, 63, 64, 65} {
				place := 8
				if count >= bounds[0] && count <= bounds[1] {
					place = 0
				}
				k.is(t, turned(s, func(s *api.State) { s.Pages = blank(count) }), place)
			}
		}
	}
}

// TestPageBytes: place 8: each page has just 4096 bytes, whatever they are.
func TestPageBytes(t *testing.T) {
	k := rich(t)
	for _, s := range ends() {
		for at := range s.Pages {
			for _, count := range []int{0, 1, 5, size - 1, size + 1, 2 * size} {
				k.is(t, turned(s, func(s *api.State) { s.Pages[at] = make([]byte, count) }), 8)
				k.is(t, turned(s, func(s *api.State) { s.Pages[at] = make([]byte, count, 4*size) }), 8)
			}
			k.is(t, turned(s, func(s *api.State) { s.Pages[at] = nil }), 8)
			k.is(t, turned(s, func(s *api.State) { s.Pages[at] = make([]byte, size, 4*size) }), 0)
			k.is(t, turned(s, func(s *api.State) { s.Pages[at] = slices.Repeat([]byte{255}, size) }), 0)
		}
		k.is(t, turned(s, func(s *api.State) { s.Pages[0], s.Pages[1] = make([]byte, size-1), make([]byte, size+1) }), 8)
	}
}

// TestRefused: of a module that may not run its error and 0, whatever the state is.
func TestRefused(t *testing.T) {
	for _, x := range []struct {
		e      api.Errno
		change func(m *api.Module)
	}{
		{api.ErrStack, func(m *api.Module) { m.Functions[3].Code[0] = api.Ins{Op: 0x01} }},
		{api.ErrCut, func(m *api.Module) { m.Functions[2].Code = nil }},
		{api.ErrRest, func(m *api.Module) { m.Functions[3].Code = append(m.Functions[3].Code, api.Ins{Op: 0x06}) }},
		{api.ErrIndex, func(m *api.Module) { m.Functions[0].Code[4].A = 4 }},
		{api.ErrIndex, func(m *api.Module) { m.Functions[0].Type = -1 }},
		{api.ErrRange, func(m *api.Module) { m.First = -1 }},
		{api.ErrRange, func(m *api.Module) { m.Most = 65 }},
		{api.ErrRange, func(m *api.Module) { m.Globals[0].Value = high }},
		{api.ErrType, func(m *api.Module) { m.Globals[2].Letter = 'x' }},
		{api.ErrMutable, func(m *api.Module) { m.Functions[1].Code[4] = api.Ins{Op: 0x16, A: 1} }},
	} {
		k := rich(t)
		x.change(&k.m)
		states := append(ends(), api.State{}, turned(deep(), func(s *api.State) { s.End, s.Frames[0].Pc, s.Used = 9, -1, -1 }))
		for _, s := range states {
			if e, place := frame.Check(k.m, s); e != x.e || place != 0 {
				t.Errorf("P14.1: %d, %d, not %d, 0", e, place, x.e)
			}
		}
	}
}

// TestNothing: of a module of nothing no state is suspended, but others may be.
func TestNothing(t *testing.T) {
	var k kit
	k.is(t, api.State{}, 1)
	k.is(t, api.State{End: suspended}, 2)
	k.is(t, api.State{End: suspended, Frames: []api.Frame{{}}}, 9)
	k.is(t, api.State{End: halted}, 0)
	k.is(t, api.State{End: halted, Results: []uint64{math.MaxUint64}}, 0)
	k.is(t, api.State{End: trapped}, 4)
	k.is(t, api.State{End: trapped, Trap: 6}, 0)
	k.is(t, api.State{End: halted, Frames: []api.Frame{}, Globals: []uint64{}, Pages: [][]byte{}, Results: []uint64{}}, 0)
	k.is(t, api.State{End: halted, Pages: blank(1)}, 8)
}

package resume_test

import (
	"math"
	"slices"
	"testing"

	"flagon/api"
	"flagon/frame"
	"flagon/snap"
)

// out is a change of a state of rich by which it may not be, and the place of that.
type out struct {
	place  int
	change func(s *api.State)
	ends   []int8 // of which states; none: of all
}

// of: is it a change of such a state?
func (x out) of(s api.State) bool {
	return len(x.ends) == 0 || slices.Contains(x.ends, s.End)
}

// outs: of each place some changes, such that can be told as bytes and such that cannot.
func outs() []out {
	var list []out
	put := func(place int, change func(s *api.State), ends ...int8) {
		list = append(list, out{place, change, ends})
	}
	for _, end := range []int8{0, 4, -1, math.MinInt8, math.MaxInt8} {
		put(1, func(s *api.State) { s.End = end })
	}
	put(2, func(s *api.State) { s.Frames = nil }, suspended)
	put(2, func(s *api.State) { s.Frames = tower(65) })
	put(2, func(s *api.State) { s.Frames = tower(1000) })
	put(2, func(s *api.State) { s.Frames = tower(1) }, halted, trapped)
	put(2, func(s *api.State) { s.Frames = tower(64) }, halted, trapped)
	put(3, func(s *api.State) { s.Results = []uint64{0} }, suspended, trapped)
	put(3, func(s *api.State) { s.Results = make([]uint64, 8) }, suspended, trapped)
	put(3, func(s *api.State) { s.Results = make([]uint64, 9) })
	for _, trap := range []int8{-1, 7, math.MinInt8, math.MaxInt8} {
		put(4, func(s *api.State) { s.Trap = trap })
	}
	put(4, func(s *api.State) { s.Trap = 1 }, suspended, halted)
	put(4, func(s *api.State) { s.Trap = 6 }, suspended, halted)
	put(4, func(s *api.State) { s.Trap = 0 }, trapped)
	for _, used := range []int64{-1, mostUsed + 1, math.MinInt64, math.MaxInt64} {
		put(5, func(s *api.State) { s.Used = used })
	}
	put(6, func(s *api.State) { s.Replies = -1 })
	put(6, func(s *api.State) { s.Replies = math.MinInt })
	for _, globals := range [][]uint64{nil, {5, wide, 0}, {5, wide, 0, 7, 0}, {high, wide, 0, 7}, {5, 0, 0, 7}, {5, wide, 0, 8}, make([]uint64, 64), make([]uint64, 65)} {
		put(7, func(s *api.State) { s.Globals = slices.Clone(globals) })
	}
	for _, pages := range []int{0, 1, 5, 64, 65} {
		put(8, func(s *api.State) { s.Pages = blank(pages) })
	}
	for _, long := range []int{0, 1, size - 1, size + 1} {
		put(8, func(s *api.State) { s.Pages[1] = make([]byte, long) })
	}
	for at := range deep().Frames {
		list = append(list, outsOf(at)...)
	}
	return list
}

// outsOf: changes of one frame of deep.
func outsOf(at int) []out {
	var list []out
	put := func(place int, change func(f *api.Frame)) {
		list = append(list, out{place, func(s *api.State) {
			if at < len(s.Frames) { // with another change there may be fewer
				change(&s.Frames[at])
			}
		}, []int8{suspended}})
	}
	for _, pc := range []int{0, 19, 2047, 2048, -1, math.MaxInt, math.MinInt} {
		put(9+at, func(f *api.Frame) { f.Pc = pc })
	}
	for _, function := range []int{4, 127, 128, -1, math.MaxInt} { // the frame ahead is at no call of it
		put(9+max(0, at-1), func(f *api.Frame) { f.Function = function })
	}
	put(9+at, func(f *api.Frame) { f.Locals = append(f.Locals, 0) })
	put(9+at, func(f *api.Frame) { f.Locals = make([]uint64, 65) })
	put(9+at, func(f *api.Frame) { f.Stack = append(f.Stack, 0) })
	put(9+at, func(f *api.Frame) { f.Stack = make([]uint64, 256) })
	put(9+at, func(f *api.Frame) { f.Stack = make([]uint64, 257) })
	f := deep().Frames[at]
	if len(f.Locals) > 0 {
		put(9+at, func(f *api.Frame) { f.Locals = f.Locals[1:] })
		put(9+at, func(f *api.Frame) { f.Locals[len(f.Locals)-1] = high })
	}
	if len(f.Stack) > 0 {
		put(9+at, func(f *api.Frame) { f.Stack = nil })
		put(9+at, func(f *api.Frame) { f.Stack[0] = high })
	}
	return list
}

// TestWritePlaces: a state that may not be, of each of frame.Check's places, is refused; such that can be told as bytes and such that cannot.
func TestWritePlaces(t *testing.T) {
	m := rich(t)
	var seen, formed []int
	for _, x := range outs() {
		for _, s := range ends() {
			if !x.of(s) {
				continue
			}
			bad := turned(s, x.change)
			if e, place := frame.Check(m, bad); e != api.ErrState || place != x.place {
				t.Fatalf("frame.Check of %s: %d, %d, not %d", told(bad), e, place, x.place)
			}
			untold(t, m, bad, api.ErrState, "%s", told(bad))
			seen = append(seen, x.place)
			if _, e := snap.Write(bad); e == api.OK {
				formed = append(formed, x.place)
			}
		}
	}
	slices.Sort(seen)
	slices.Sort(formed)
	if got := slices.Compact(seen); !slices.Equal(got, []int{1, 2, 3, 4, 5, 6, 7, 8, 9, 10, 11, 12, 13, 14}) {
		t.Errorf("the places %v alone are asked", got)
	}
	if got := slices.Compact(formed); !slices.Equal(got, []int{2, 3, 4, 7, 8, 9, 10, 11, 12, 13, 14}) {
		t.Errorf("of the places %v alone something can be told", got)
	}
}

// TestStates: states that may be, at the bounds of what is asked.
func TestStates(t *testing.T) {
	m := rich(t)
	for _, s := range ends() {
		is := func(change func(s *api.State)) {
			t.Helper()
			both(t, m, turned(s, change))
		}
		is(func(s *api.State) {})
		is(func(s *api.State) { s.Used = 0 })
		is(func(s *api.State) { s.Used = mostUsed })
		is(func(s *api.State) { s.Replies = 0 })
		is(func(s *api.State) { s.Replies = mostReplies })
		is(func(s *api.State) { s.Globals[0], s.Globals[2] = 0, wide })
		is(func(s *api.State) { s.Pages = blank(2) })
		is(func(s *api.State) { s.Pages = slices.Repeat([][]byte{slices.Repeat([]byte{255}, size)}, 4) })
	}
	for count := 1; count <= most64; count++ {
		both(t, m, turned(deep(), func(s *api.State) { s.Frames = tower(count) }))
	}
	for count := range 9 {
		both(t, m, turned(ended(halted), func(s *api.State) { s.Results = slices.Repeat([]uint64{wide}, count) }))
	}
	for trap := int8(1); trap <= 6; trap++ {
		both(t, m, turned(ended(trapped), func(s *api.State) { s.Trap = trap }))
	}
}

// TestNil: a list that is nil is as good as an empty one.
func TestNil(t *testing.T) {
	s := turned(begun(), func(s *api.State) {
		s.Results, s.Globals, s.Frames[0].Locals, s.Frames[0].Stack = []uint64{}, []uint64{}, []uint64{}, []uint64{}
	})
	both(t, five(t), s)
	both(t, five(t), api.State{End: halted, Pages: blank(1), Frames: []api.Frame{}})
	both(t, api.Module{}, api.State{End: halted, Pages: [][]byte{}, Frames: []api.Frame{}, Results: []uint64{}, Globals: []uint64{}})
}

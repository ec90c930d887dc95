package frame_test

import (
	"math"
	"slices"
	"testing"

	"flagon/api"
	"flagon/frame"
)

// same: are they Equal, asked both ways?
func same(t *testing.T, a, b api.State, want bool) {
	t.Helper()
	if frame.Equal(a, b) != want || frame.Equal(b, a) != want {
		t.Errorf("P14.2: Equal: not %v, of %s; %s", want, told(a), told(b))
	}
}

// full is a state in which each list has something; it may not be.
func full() api.State {
	s := deep()
	s.Results, s.Trap = []uint64{1, 2, 3}, 2
	s.Pages[1][7] = 8
	s.Frames[4].Stack, s.Frames[4].Locals = []uint64{5, 6}, []uint64{7}
	return s
}

// lists: where each list of numbers of a state stands.
func lists(s *api.State) []*[]uint64 {
	out := []*[]uint64{&s.Results, &s.Globals}
	for at := range s.Frames {
		out = append(out, &s.Frames[at].Locals, &s.Frames[at].Stack)
	}
	return out
}

// fields: changes of a state, each of one thing that is no list.
func fields() []func(s *api.State) {
	out := []func(s *api.State){
		func(s *api.State) { s.Replies++ },
		func(s *api.State) { s.Replies = ^s.Replies },
		func(s *api.State) { s.Replies += high },
		func(s *api.State) { s.End++ },
		func(s *api.State) { s.End = -s.End },
		func(s *api.State) { s.Trap++ },
		func(s *api.State) { s.Trap = -128 },
		func(s *api.State) { s.Used++ },
		func(s *api.State) { s.Used += high },
		func(s *api.State) { s.Used = math.MinInt64 },
	}
	for at := range full().Frames {
		out = append(out,
			func(s *api.State) { s.Frames[at].Function++ },
			func(s *api.State) { s.Frames[at].Function += high },
			func(s *api.State) { s.Frames[at].Pc++ },
			func(s *api.State) { s.Frames[at].Pc = -1 },
		)
	}
	return out
}

// TestEqualFields: a state is Equal to itself, and to none with one field changed.
func TestEqualFields(t *testing.T) {
	for _, s := range []api.State{full(), deep(), ended(halted), {}} {
		same(t, s, cloned(s), true)
	}
	for _, change := range fields() {
		same(t, full(), turned(full(), change), false)
		same(t, turned(full(), change), turned(full(), change), true)
	}
}

// TestEqualNumbers: one number of a list changed; one more, at each end; one fewer.
func TestEqualNumbers(t *testing.T) {
	s := full()
	for n, list := range lists(&s) {
		turn := func(change func(l []uint64) []uint64) {
			t.Helper()
			same(t, full(), turned(full(), func(s *api.State) {
				at := lists(s)[n]
				*at = change(*at)
			}), false)
		}
		for at := range *list {
			for _, bit := range []int{0, 31, 32, 63} {
				turn(func(l []uint64) []uint64 { l[at] ^= 1 << bit; return l })
			}
			turn(func(l []uint64) []uint64 { return slices.Delete(l, at, at+1) })
		}
		if len(*list) > 0 {
			turn(func(l []uint64) []uint64 { return nil })
		}
		turn(func(l []uint64) []uint64 { return append(l, 0) })
		turn(func(l []uint64) []uint64 { return append([]uint64{0}, l...) })
	}
}

// TestEqualPages: one byte of a page changed, a page longer or shorter, a page more or fewer, pages in another order.
func TestEqualPages(t *testing.T) {
	turn := func(change func(s *api.State)) {
		t.Helper()
		same(t, full(), turned(full(), change), false)
	}
	for at := range full().Pages {
		for _, place := range []int{0, 1, 2048, size - 1} {
			turn(func(s *api.State) { s.Pages[at][place]++ })
		}
		turn(func(s *api.State) { s.Pages[at] = append(s.Pages[at], 0) })
		turn(func(s *api.State) { s.Pages[at] = s.Pages[at][:size-1] })
		turn(func(s *api.State) { s.Pages[at] = nil })
		turn(func(s *api.State) { s.Pages = slices.Delete(s.Pages, at, at+1) })
	}
	turn(func(s *api.State) { s.Pages = nil })
	turn(func(s *api.State) { s.Pages = append(s.Pages, nil) })
	turn(func(s *api.State) { s.Pages = append(s.Pages, make([]byte, size)) })
	turn(func(s *api.State) { s.Pages[0], s.Pages[1] = s.Pages[1], s.Pages[0] })
}

// TestEqualFrames: a frame more, fewer or doubled; frames in another order; locals and stack that change places.
func TestEqualFrames(t *testing.T) {
	turn := func(change func(s *api.State)) {
		t.Helper()
		same(t, full(), turned(full(), change), false)
	}
	for at := range full().Frames {
		turn(func(s *api.State) { s.Frames = slices.Delete(s.Frames, at, at+1) })
		turn(func(s *api.State) { s.Frames = slices.Insert(s.Frames, at, s.Frames[at]) })
	}
	turn(func(s *api.State) { s.Frames = nil })
	turn(func(s *api.State) { s.Frames = append(s.Frames, api.Frame{}) })
	turn(func(s *api.State) { slices.Reverse(s.Frames) })
	turn(func(s *api.State) { f := &s.Frames[4]; f.Locals, f.Stack = f.Stack, f.Locals })
	turn(func(s *api.State) { s.Results, s.Globals = s.Globals, s.Results })
	turn(func(s *api.State) { f := &s.Frames[0]; f.Function, f.Pc = f.Pc, f.Function })
}

// TestEqualNone: nil is as good as empty, in each list.
func TestEqualNone(t *testing.T) {
	empty := api.State{Frames: []api.Frame{}, Globals: []uint64{}, Pages: [][]byte{}, Results: []uint64{}}
	same(t, api.State{}, empty, true)
	inner := api.State{Frames: []api.Frame{{Locals: []uint64{}, Stack: []uint64{}}}, Pages: [][]byte{{}}}
	outer := api.State{Frames: []api.Frame{{}}, Pages: [][]byte{nil}}
	same(t, inner, outer, true)
	same(t, inner, empty, false)
	same(t, outer, api.State{}, false)
	s := full()
	for n := range lists(&s) {
		a := turned(full(), func(s *api.State) { *lists(s)[n] = nil })
		b := turned(full(), func(s *api.State) { *lists(s)[n] = make([]uint64, 0, 5) })
		same(t, a, b, true)
	}
}

// TestEqualSpare: what stands in spare room is no matter.
func TestEqualSpare(t *testing.T) {
	a := turned(full(), func(s *api.State) {
		for _, list := range lists(s) {
			*list = append(*list, 77)[:len(*list)]
		}
		s.Frames = append(s.Frames, api.Frame{Pc: 77})[:len(s.Frames)]
		s.Pages = append(s.Pages, []byte{77})[:len(s.Pages)]
		s.Pages[0] = append(s.Pages[0], 77)[:size]
	})
	same(t, full(), a, true)
}

// TestHeight: the values of all stacks, and of nothing else.
func TestHeight(t *testing.T) {
	is := func(want int, s api.State) {
		t.Helper()
		if got := frame.Height(s); got != want {
			t.Errorf("P14.2: Height: %d, not %d, of %s", got, want, told(s))
		}
	}
	is(0, api.State{})
	is(0, api.State{Results: make([]uint64, 3), Globals: make([]uint64, 4), Pages: blank(2), Used: 9, Replies: 9, End: 9, Trap: 9})
	is(0, api.State{Frames: []api.Frame{{Locals: make([]uint64, 5), Function: 3, Pc: 8}, {}}})
	is(5, deep())
	is(7, full())
	is(3, api.State{Frames: []api.Frame{{Stack: make([]uint64, 3, 10)}}})
	is(3, api.State{Frames: []api.Frame{{Stack: make([]uint64, 1)}, {}, {Stack: make([]uint64, 2)}}})
	many := api.State{}
	for n := range 100 {
		many.Frames = append(many.Frames, api.Frame{Stack: make([]uint64, n)})
	}
	is(4950, many)
}

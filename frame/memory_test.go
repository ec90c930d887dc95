package frame_test

import (
	"bytes"
	"math"
	"slices"
	"testing"

	"flagon/api"
	"flagon/frame"
)

// roomy is a list of its own with spare room that has v in it.
func roomy[T any](list []T, v T) []T {
	return append(slices.Clone(list), v, v, v)[:len(list)]
}

// whole is a list with its spare room.
func whole[T any](list []T) []T {
	return slices.Clone(list[:cap(list)])
}

// spoil writes over a list, spare room too.
func spoil[T any](list []T, v T) {
	list = list[:cap(list)]
	for at := range list {
		list[at] = v
	}
}

// roomyState is the same state, in lists that have spare room.
func roomyState(s api.State) api.State {
	s.Pages, s.Frames = roomy(s.Pages, []byte{77}), roomy(s.Frames, api.Frame{Pc: 77, Stack: []uint64{77}})
	for at := range s.Pages {
		s.Pages[at] = roomy(s.Pages[at], 77)
	}
	for _, list := range lists(&s) {
		*list = roomy(*list, 77)
	}
	return s
}

// wholeState is a state with all spare room, in memory of its own.
func wholeState(s api.State) api.State {
	s.Pages, s.Frames = whole(s.Pages), whole(s.Frames)
	for at := range s.Pages {
		s.Pages[at] = whole(s.Pages[at])
	}
	for _, list := range lists(&s) {
		*list = whole(*list)
	}
	return s
}

// spoilState writes over all lists of a state, the inner ones first.
func spoilState(s api.State) {
	for _, p := range s.Pages {
		spoil(p, 99)
	}
	for _, list := range lists(&s) {
		spoil(*list, 99)
	}
	spoil(s.Pages, []byte{99})
	spoil(s.Frames, api.Frame{Function: 99, Stack: []uint64{99}})
}

func sameNumbers(a, b api.Frame) bool {
	return a.Function == b.Function && a.Pc == b.Pc && slices.Equal(a.Locals, b.Locals) && slices.Equal(a.Stack, b.Stack)
}

// identical: Equal, said without the program.
func identical(a, b api.State) bool {
	return a.End == b.End && a.Trap == b.Trap && a.Used == b.Used && a.Replies == b.Replies && slices.Equal(a.Results, b.Results) &&
		slices.Equal(a.Globals, b.Globals) && slices.EqualFunc(a.Pages, b.Pages, bytes.Equal) && slices.EqualFunc(a.Frames, b.Frames, sameNumbers)
}

// states: such that may be, and such that may not.
func states() []api.State {
	odd := api.State{
		Frames:  []api.Frame{{Function: -1, Pc: math.MinInt, Stack: make([]uint64, 300)}, {Locals: []uint64{math.MaxUint64}}},
		Pages:   [][]byte{nil, {1}, make([]byte, size+1)},
		Globals: make([]uint64, 100),
		Results: make([]uint64, 10),
		Replies: math.MinInt,
		End:     -128,
		Trap:    127,
		Used:    math.MinInt64,
	}
	return append(ends(), api.State{}, full(), odd, begun(), api.State{Frames: make([]api.Frame, 70), Pages: make([][]byte, 70)})
}

// TestCopyEqual: a copy is Equal, of any state.
func TestCopyEqual(t *testing.T) {
	for _, s := range states() {
		c := frame.Copy(s)
		same(t, s, c, true)
		if !identical(s, c) {
			t.Errorf("P14.2: Copy: %s, not %s", told(c), told(s))
		}
		same(t, c, frame.Copy(c), true)
	}
	k := rich(t)
	for _, s := range ends() {
		k.is(t, frame.Copy(s), 0)
	}
	k.is(t, frame.Copy(full()), 3)
}

// TestCopyNew: a copy shares no memory with what was handed in, spare room neither.
func TestCopyNew(t *testing.T) {
	for _, s := range states() {
		s = roomyState(s)
		before, first := wholeState(s), cloned(s)
		c := frame.Copy(s)
		spoilState(c)
		if !identical(wholeState(s), before) {
			t.Fatalf("R5: Copy shares memory with %s", told(s))
		}
		c = frame.Copy(s)
		spoilState(s)
		if !identical(c, first) {
			t.Fatalf("R5: Copy keeps %s", told(first))
		}
	}
}

// TestCopyLists: no two lists of a copy share memory, even where those that were handed in do.
func TestCopyLists(t *testing.T) {
	one, page := []uint64{1, 2, 3}, make([]byte, size)
	s := api.State{Results: one, Globals: one[:2], Pages: [][]byte{page, page[:9], page}}
	for range 3 {
		s.Frames = append(s.Frames, api.Frame{Locals: one, Stack: one[1:]})
	}
	count := len(lists(&s))
	for n := range count {
		c := frame.Copy(s)
		spoil(*lists(&c)[n], 99)
		*lists(&c)[n] = slices.Clone(*lists(&s)[n])
		if !identical(c, s) {
			t.Errorf("R5: the list %d of a copy shares memory with another one", n)
		}
	}
	for n := range s.Pages {
		c := frame.Copy(s)
		spoil(c.Pages[n], 99)
		c.Pages[n] = s.Pages[n]
		if !identical(c, s) {
			t.Errorf("R5: the page %d of a copy shares memory with another one", n)
		}
	}
}

// TestCopies: two copies know nothing of each other.
func TestCopies(t *testing.T) {
	for _, s := range states() {
		a, b := frame.Copy(s), frame.Copy(s)
		spoilState(a)
		if !identical(b, s) {
			t.Errorf("R6: two copies share memory: %s", told(s))
		}
	}
}

// roomyModule is the same module, in lists that have spare room.
func roomyModule(m api.Module) api.Module {
	m.Types, m.Hosts, m.Globals, m.Functions = roomy(m.Types, api.Sig{Params: "77"}), roomy(m.Hosts, 77), roomy(m.Globals, api.Global{Letter: 77}), roomy(m.Functions, api.Function{Type: 77})
	for at := range m.Functions {
		m.Functions[at].Code = roomy(m.Functions[at].Code, api.Ins{Op: 0x77})
	}
	return m
}

// wholeModule is a module with all spare room, in memory of its own.
func wholeModule(m api.Module) api.Module {
	m.Types, m.Hosts, m.Globals, m.Functions = whole(m.Types), whole(m.Hosts), whole(m.Globals), whole(m.Functions)
	for at := range m.Functions {
		m.Functions[at].Code = whole(m.Functions[at].Code)
	}
	return m
}

func sameIns(a, b api.Ins) bool {
	return a.Op == b.Op && a.A == b.A && slices.Equal(a.L, b.L)
}

func sameFunction(a, b api.Function) bool {
	return a.Type == b.Type && a.Locals == b.Locals && slices.EqualFunc(a.Code, b.Code, sameIns)
}

func sameModule(a, b api.Module) bool {
	return slices.Equal(a.Types, b.Types) && slices.Equal(a.Hosts, b.Hosts) && slices.Equal(a.Globals, b.Globals) && a.First == b.First && a.Most == b.Most && slices.EqualFunc(a.Functions, b.Functions, sameFunction)
}

// TestArguments: no call changes what it is handed, spare room neither; asked again it answers the same.
func TestArguments(t *testing.T) {
	for _, m := range []api.Module{roomyModule(rich(t).m), roomyModule(five(t).m), {}} {
		module := wholeModule(m)
		for _, s := range states() {
			s = roomyState(s)
			before := wholeState(s)
			e, place := frame.Check(m, s)
			high := frame.Height(s)
			frame.Copy(s)
			for _, other := range states() {
				frame.Equal(s, other)
				frame.Equal(other, s)
			}
			if again, at := frame.Check(m, s); again != e || at != place || frame.Height(s) != high {
				t.Errorf("R6: %d, %d, then %d, %d, of %s", e, place, again, at, told(s))
			}
			if !identical(wholeState(s), before) || !sameModule(wholeModule(m), module) {
				t.Errorf("R5: %s is changed", told(s))
			}
		}
	}
}

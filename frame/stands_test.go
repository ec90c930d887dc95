package frame_test

import (
	"math"
	"slices"
	"strings"
	"testing"

	"flagon/api"
)

// values: of each letter a value, the greatest that fits.
func values(letters string) []uint64 {
	var list []uint64
	for _, letter := range letters {
		if letter == 'w' {
			list = append(list, high-1)
		} else {
			list = append(list, math.MaxUint64)
		}
	}
	return list
}

// alone: a state of rich with that frame alone.
func alone(f api.Frame) api.State {
	return turned(deep(), func(s *api.State) { s.Frames = []api.Frame{f} })
}

// TestLast: the last frame stands at each pc with the shape there, and with that alone.
func TestLast(t *testing.T) {
	k := rich(t)
	for function, shapes := range k.shapes {
		for pc, shape := range shapes {
			f := api.Frame{Function: function, Pc: pc, Locals: values(k.locals[function]), Stack: values(shape)}
			k.is(t, alone(f), 0)
			for _, other := range []string{"", "w", "l", "ww", "wl", "lw", "ll", "wlw", "wll", "wlwl", "wllw", "lwlw"} {
				f.Stack = values(other)
				place := 9
				if fit(f.Stack, shape) {
					place = 0
				}
				k.is(t, alone(f), place)
			}
		}
	}
}

// TestPc: of each function the pcs at, ahead of and behind its first and its last instruction.
func TestPc(t *testing.T) {
	k := rich(t)
	for function, shapes := range k.shapes {
		f := api.Frame{Function: function, Pc: len(shapes) - 1, Locals: values(k.locals[function]), Stack: values(shapes[len(shapes)-1])}
		k.is(t, alone(f), 0)
		for _, pc := range []int{-1, -2, len(shapes), len(shapes) + 1, 2048, math.MaxInt, math.MinInt} {
			f.Pc = pc
			k.is(t, alone(f), 9)
			f.Stack = nil
			k.is(t, alone(f), 9)
		}
	}
}

// TestFunction: one that is none's, on both sides; of the first frame, and of one behind others: then the frame ahead of it is at no call of it.
func TestFunction(t *testing.T) {
	k := rich(t)
	for _, function := range []int{-1, -2, 4, 5, 128, math.MaxInt, math.MinInt} {
		k.is(t, alone(api.Frame{Function: function}), 9)
		for at := range deep().Frames {
			k.is(t, turned(deep(), func(s *api.State) { s.Frames[at].Function = function }), 9+max(0, at-1))
		}
	}
}

// TestLocals: too few, too many, out of their letters, of each frame.
func TestLocals(t *testing.T) {
	k := rich(t)
	for at, f := range deep().Frames {
		turn := func(place int, l []uint64) {
			t.Helper()
			k.is(t, turned(deep(), func(s *api.State) { s.Frames[at].Locals = l }), place)
		}
		letters := k.locals[f.Function]
		turn(0, values(letters))
		turn(0, make([]uint64, len(letters)))
		turn(9+at, append(values(letters), 0))
		turn(9+at, make([]uint64, 100))
		if letters == "" {
			turn(0, []uint64{})
			continue
		}
		turn(9+at, nil)
		turn(9+at, values(letters[1:]))
		turn(9+at, make([]uint64, len(letters)-1))
		for n, letter := range letters {
			if letter == 'l' {
				continue
			}
			for bit := 32; bit < 64; bit++ {
				l := make([]uint64, len(letters))
				l[n] = 1 << bit
				turn(9+at, l)
			}
		}
	}
}

// TestStack: too short, too long, out of its letters, of each frame.
func TestStack(t *testing.T) {
	k := rich(t)
	for at, f := range deep().Frames {
		turn := func(place int, l []uint64) {
			t.Helper()
			k.is(t, turned(deep(), func(s *api.State) { s.Frames[at].Stack = l }), place)
		}
		turn(0, slices.Clone(f.Stack))
		turn(9+at, append(slices.Clone(f.Stack), 0))
		turn(9+at, make([]uint64, 1000))
		if len(f.Stack) == 0 {
			turn(0, []uint64{})
			continue
		}
		turn(9+at, nil)
		turn(9+at, f.Stack[1:])
		turn(9+at, f.Stack[:len(f.Stack)-1])
		for bit := 32; bit < 64; bit++ {
			l := slices.Clone(f.Stack)
			l[0] = 1 << bit
			turn(9+at, l)
		}
	}
}

// TestCaller: a frame ahead of another one stands at a call of that one's function, without its parameters, and nowhere else.
func TestCaller(t *testing.T) {
	k := rich(t)
	waits := map[[3]int]string{
		{0, 4, 0}: "wl", {0, 6, 2}: "wl", {0, 7, 1}: "wl", {0, 8, 3}: "wl",
		{1, 4, 2}: "", {2, 1, 2}: "", {2, 2, 1}: "",
	}
	calls := 0
	for function, shapes := range k.shapes {
		for pc, shape := range shapes {
			for callee := range k.shapes {
				wait, found := waits[[3]int{function, pc, callee}]
				two := func(place int, stack []uint64) {
					t.Helper()
					ahead := api.Frame{Function: function, Pc: pc, Locals: values(k.locals[function]), Stack: stack}
					behind := api.Frame{Function: callee, Locals: values(k.locals[callee])}
					k.is(t, turned(deep(), func(s *api.State) { s.Frames = []api.Frame{ahead, behind} }), place)
				}
				if !found {
					two(9, values(shape))
					two(9, nil)
					two(9, values("wl"))
					continue
				}
				calls++
				two(0, values(wait))
				two(9, values(wait+"w"))
				if wait != shape {
					two(9, values(shape))
				}
				if wait != "" {
					two(9, nil)
				}
			}
		}
	}
	if calls != len(waits) {
		t.Errorf("%d calls", calls)
	}
}

// TestPlaces: of a chain of frames the place of the first one that does not fit, of the last one too.
func TestPlaces(t *testing.T) {
	k := rich(t)
	count := len(deep().Frames)
	for a := range count {
		for b := range count {
			s := turned(deep(), func(s *api.State) {
				s.Frames[a].Pc = -1
				s.Frames[b].Locals = append(s.Frames[b].Locals, 0)
			})
			k.is(t, s, 9+min(a, b))
		}
	}
	for at := range most64 {
		s := turned(deep(), func(s *api.State) {
			s.Frames = tower(most64)
			s.Frames[at].Locals[1] = high
		})
		k.is(t, s, 9+at)
	}
	k.is(t, turned(deep(), func(s *api.State) { s.Frames = append(s.Frames, api.Frame{Function: 3, Locals: []uint64{1, 2}}) }), 9+count-1)
	k.is(t, turned(deep(), func(s *api.State) { s.Frames = s.Frames[:count-1] }), 9+count-2)
	k.is(t, turned(deep(), func(s *api.State) { s.Frames = s.Frames[1:] }), 0)
	k.is(t, turned(deep(), func(s *api.State) { slices.Reverse(s.Frames) }), 9)
}

// TestFirstPlace: where several things are not so the first place is told, of each two and of all.
func TestFirstPlace(t *testing.T) {
	k := rich(t)
	changes := []func(s *api.State){
		func(s *api.State) { s.End = 4 },
		func(s *api.State) { s.Frames = append(s.Frames, make([]api.Frame, 65)...) },
		func(s *api.State) { s.Results = make([]uint64, 9) },
		func(s *api.State) { s.Trap = 7 },
		func(s *api.State) { s.Used = -1 },
		func(s *api.State) { s.Replies = -1 },
		func(s *api.State) { s.Globals = nil },
		func(s *api.State) { s.Pages = nil },
		func(s *api.State) {
			if len(s.Frames) > 0 {
				s.Frames[0].Pc = -1
			}
		},
		func(s *api.State) {
			if len(s.Frames) > 1 {
				s.Frames[1].Pc = -1
			}
		},
	}
	for _, start := range ends() {
		for a := range changes {
			all := start
			for b := a; b < len(changes); b++ {
				if start.End != suspended && a > 7 {
					continue
				}
				both := turned(start, func(s *api.State) {
					changes[b](s)
					changes[a](s)
				})
				k.is(t, both, a+1)
				all = turned(all, changes[b])
				k.is(t, all, a+1)
			}
		}
	}
}

// TestLimits: the greatest stack, the most locals and the most functions that there are.
func TestLimits(t *testing.T) {
	source := "flagon\ntype - -> -\nmemory 0 0\nfunc 0 " + strings.Repeat("wl", 32) + "\n" +
		strings.Repeat("w.const 1\n", 256) + strings.Repeat("drop\n", 256) + "call 127\nend\n" + strings.Repeat("func 0 -\nend\n", 127)
	var shapes [][]string
	first := []string{}
	for n := range 256 {
		first = append(first, strings.Repeat("w", n))
	}
	for n := 256; n > 0; n-- {
		first = append(first, strings.Repeat("w", n))
	}
	shapes = append(shapes, append(first, "", ""))
	for range 127 {
		shapes = append(shapes, []string{""})
	}
	k := readKit(t, source, shapes)
	turn := func(place, pc, locals, stack int, behind ...api.Frame) {
		t.Helper()
		f := api.Frame{Pc: pc, Locals: make([]uint64, locals), Stack: make([]uint64, stack)}
		k.is(t, api.State{End: suspended, Frames: append([]api.Frame{f}, behind...)}, place)
	}
	turn(0, 256, 64, 256)
	turn(9, 256, 64, 255)
	turn(9, 256, 64, 257)
	turn(9, 256, 63, 256)
	turn(9, 256, 65, 256)
	turn(0, 255, 64, 255)
	turn(0, 257, 64, 255)
	turn(0, 513, 64, 0)
	turn(9, 514, 64, 0)
	turn(0, 512, 64, 0, api.Frame{Function: 127})
	turn(9, 512, 64, 0, api.Frame{Function: 126})
	turn(9, 512, 64, 0, api.Frame{Function: 128})
	turn(10, 512, 64, 0, api.Frame{Function: 127, Pc: 1})
}

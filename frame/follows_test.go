package frame_test

import (
	"math"
	"math/rand"
	"slices"
	"testing"

	"flagon/api"
	"flagon/frame"
	"flagon/validate"
)

// put is a change of a state by which one thing is out of its range, and its place.
type put struct {
	place  int
	change func(s *api.State)
}

// lengths: a list of numbers one longer, one shorter, or much longer.
func lengths(place int, list func(s *api.State) *[]uint64, count int) []put {
	change := func(turn func(l []uint64) []uint64) put {
		return put{place, func(s *api.State) { at := list(s); *at = turn(*at) }}
	}
	out := []put{
		change(func(l []uint64) []uint64 { return append(l, 0) }),
		change(func(l []uint64) []uint64 { return append(l, make([]uint64, 300)...) }),
	}
	if count > 0 {
		out = append(out, change(func(l []uint64) []uint64 { return l[1:] }), change(func(l []uint64) []uint64 { return l[:count-1] }))
	}
	return out
}

// highs: each value of a w with a high bit.
func highs(r *rand.Rand, place int, list func(s *api.State) *[]uint64, letters string) []put {
	var out []put
	for at, letter := range letters {
		if letter == 'w' {
			bit := 32 + r.Intn(32)
			out = append(out, put{place, func(s *api.State) { (*list(s))[at] |= 1 << bit }})
		}
	}
	return out
}

// outs: what may be put out of its range in a state of the kit's module that may be: every value that has a letter, every pc, every length, and the numbers.
func (k kit) outs(r *rand.Rand, s api.State) []put {
	out := []put{
		{1, func(s *api.State) { s.End = 0 }}, {1, func(s *api.State) { s.End = 4 }},
		{2, func(s *api.State) { s.Frames = append(s.Frames, make([]api.Frame, 65)...) }},
		{3, func(s *api.State) { s.Results = append(s.Results, make([]uint64, 9)...) }},
		{4, func(s *api.State) { s.Trap = 7 }}, {4, func(s *api.State) { s.Trap = -1 }},
		{5, func(s *api.State) { s.Used = -1 }}, {5, func(s *api.State) { s.Used = mostUsed + 1 }},
		{6, func(s *api.State) { s.Replies = -1 }},
		{8, func(s *api.State) { s.Pages = append(s.Pages, blank(k.m.Most+1)...) }},
	}
	if k.m.First > 0 {
		out = append(out, put{8, func(s *api.State) { s.Pages = s.Pages[:k.m.First-1] }})
	}
	for at := range s.Pages {
		out = append(out, put{8, func(s *api.State) { s.Pages[at] = append(s.Pages[at], 0) }}, put{8, func(s *api.State) { s.Pages[at] = s.Pages[at][1:] }}, put{8, func(s *api.State) { s.Pages[at] = nil }})
	}
	letters := ""
	for at, g := range k.m.Globals {
		letters += string(rune(g.Letter))
		if !g.Mutable {
			out = append(out, put{7, func(s *api.State) { s.Globals[at] ^= 1 << r.Intn(32) }})
		}
	}
	globals := func(s *api.State) *[]uint64 { return &s.Globals }
	out = append(append(out, lengths(7, globals, len(letters))...), highs(r, 7, globals, letters)...)
	for at := range s.Frames {
		out = append(out, k.outsOf(r, s, at)...)
	}
	return out
}

// outsOf: what may be put out of its range in one frame.
func (k kit) outsOf(r *rand.Rand, s api.State, at int) []put {
	f := s.Frames[at]
	var out []put
	for _, pc := range []int{-1, len(k.shapes[f.Function]), math.MaxInt, math.MinInt} {
		out = append(out, put{9 + at, func(s *api.State) { s.Frames[at].Pc = pc }})
	}
	locals := func(s *api.State) *[]uint64 { return &s.Frames[at].Locals }
	stack := func(s *api.State) *[]uint64 { return &s.Frames[at].Stack }
	out = append(append(out, lengths(9+at, locals, len(f.Locals))...), lengths(9+at, stack, len(f.Stack))...)
	shape := k.shapes[f.Function][f.Pc][:len(f.Stack)]
	return append(append(out, highs(r, 9+at, locals, k.locals[f.Function])...), highs(r, 9+at, stack, shape)...)
}

// TestFollows: states that may be, and those of them of which a single thing is put out of its range; that thing's place is told.
func TestFollows(t *testing.T) {
	r := rand.New(rand.NewSource(141))
	frames := 0
	for range 150 {
		k := drawnKit(r)
		if tables, e, _, _ := validate.Module(k.m); e != api.OK || !slices.EqualFunc(tables, k.shapes, func(x api.Table, l []string) bool { return slices.Equal(x.Shapes, l) }) {
			t.Fatalf("%v is drawn as one that may run: %d", k.m, e)
		}
		for range 4 {
			s := k.drawnState(r)
			frames = max(frames, len(s.Frames))
			k.is(t, s, 0)
			for _, x := range k.outs(r, s) {
				k.is(t, turned(s, x.change), x.place)
			}
		}
		if t.Failed() {
			t.FailNow()
		}
	}
	if frames != most64 {
		t.Errorf("at most %d frames are drawn", frames)
	}
}

// shuffled is s with some of it drawn anew, taken from other places, or put out of its range.
func (k kit) shuffled(r *rand.Rand, s api.State) api.State {
	s = cloned(s)
	if len(s.Frames) > 0 {
		f := &s.Frames[r.Intn(len(s.Frames))]
		other := s.Frames[r.Intn(len(s.Frames))]
		switch r.Intn(8) {
		case 0:
			f.Pc = r.Intn(30) - 1
		case 1:
			f.Function = r.Intn(6) - 1
		case 2:
			*f = other
		case 3:
			f.Stack = slices.Clone(other.Stack)
		case 4:
			f.Locals = slices.Clone(other.Locals)
		case 5:
			s.Frames = s.Frames[:r.Intn(len(s.Frames))+1]
		case 6:
			s.Frames = s.Frames[r.Intn(len(s.Frames)):]
		}
	}
	switch r.Intn(20) {
	case 0:
		s.End = int8(r.Intn(5))
	case 1:
		s.Frames = k.drawnFrames(r)
	case 2:
		s.Trap = int8(r.Intn(8))
	case 3:
		s.Results = append(s.Results, 1)
	case 4:
		s.Used = r.Int63() - r.Int63()
	case 5:
		s.Pages = blank(r.Intn(6))
	case 6:
		s.Globals = drawnValues(r, drawnLetters(r, 4))
	case 7:
		s.Replies = r.Intn(3) - 1
	}
	return s
}

// TestShuffled: states that are changed in several places, as the document says.
func TestShuffled(t *testing.T) {
	r := rand.New(rand.NewSource(142))
	may := 0
	for range 1500 {
		k := drawnKit(r)
		s := k.drawnState(r)
		for range 6 {
			s = k.shuffled(r, s)
			place := k.place(s)
			k.is(t, s, place)
			if place == 0 {
				may++
			}
			same(t, s, frame.Copy(s), true)
		}
		if t.Failed() {
			t.FailNow()
		}
	}
	if may < 500 {
		t.Errorf("only %d states that may be", may)
	}
}

// TestOthers: states of one module handed in with another one: no panic, and what the document says.
func TestOthers(t *testing.T) {
	r := rand.New(rand.NewSource(143))
	for range 1500 {
		a, b := drawnKit(r), drawnKit(r)
		s := a.drawnState(r)
		b.is(t, s, b.place(s))
		if t.Failed() {
			t.FailNow()
		}
	}
}

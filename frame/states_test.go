package frame_test

import (
	"fmt"
	"slices"
	"testing"

	"flagon/api"
)

// five is the module of the chapter's examples.
func five(t *testing.T) kit {
	t.Helper()
	return readKit(t, "flagon\ntype - -> w\nmemory 1 2\nfunc 0 -\nw.const 5\nend\n", [][]string{{"", "w"}})
}

// begun is the state of the chapter's examples.
func begun() api.State {
	return api.State{Frames: []api.Frame{{}}, Pages: blank(1), End: suspended}
}

// blank: so many pages of noughts.
func blank(pages int) [][]byte {
	list := make([][]byte, pages)
	for at := range list {
		list[at] = make([]byte, size)
	}
	return list
}

const source = `flagon
type - -> -
type wl -> lw
type - -> w
type l -> -
type w -> w
extern 4
global w var 5
global l const -1
global l var -2
global w const 7
memory 2 4
func 1 lww
  w.const 1
  l.const 2
  get 0
  get 1
  call 0
  drop
  call 2
  call 1
  call 3
  host 0
  drop
  drop
  drop
  l.const 0
  w.const 0
  end
func 2 -
  block 0
    nop
  end
  l.const 9
  call 2
  w.const 1
  trap
  end
func 3 w
  get 0
  call 2
  call 1
  drop
  end
func 4 l
  get 0
  end
`

// rich is a module of four functions that call each other, with globals of each kind.
func rich(t *testing.T) kit {
	t.Helper()
	return readKit(t, source, [][]string{
		{"", "w", "wl", "wlw", "wlwl", "wllw", "wll", "wl", "wlw", "wlw", "wlw", "wl", "w", "", "l", "lw"},
		{"", "", "", "", "l", "", "w", "w"},
		{"", "l", "", "w", ""},
		{"", "w"},
	})
}

// deep is a state of rich that may be: function 0 calls itself, then 2, which calls itself, then 1, which calls 2.
func deep() api.State {
	return api.State{
		Frames: []api.Frame{
			{Function: 0, Pc: 4, Locals: []uint64{1, 1 << 63, 3, 4, high - 1}, Stack: []uint64{high - 1, 1<<64 - 1}},
			{Function: 0, Pc: 6, Locals: []uint64{0, 0, 0, 0, 0}, Stack: []uint64{0, high}},
			{Function: 2, Pc: 1, Locals: []uint64{high, 1}},
			{Function: 2, Pc: 2, Locals: []uint64{7, 8}},
			{Function: 1, Pc: 4},
			{Function: 2, Pc: 3, Locals: []uint64{1<<64 - 1, high - 1}, Stack: []uint64{9}},
		},
		Globals: []uint64{high - 1, 1<<64 - 1, 3, 7},
		Pages:   blank(3),
		Replies: 2,
		End:     suspended,
		Used:    77,
	}
}

// ended is a state of rich that has ended so.
func ended(end int8) api.State {
	s := deep()
	s.Frames, s.End = nil, end
	if end == trapped {
		s.Trap = 1
	}
	return s
}

// ends: a state of rich that may be, of each way to stand.
func ends() []api.State {
	return []api.State{deep(), ended(halted), ended(trapped)}
}

// turned is a copy of s, made without the program, with a change.
func turned(s api.State, change func(s *api.State)) api.State {
	s = cloned(s)
	change(&s)
	return s
}

func cloned(s api.State) api.State {
	s.Results, s.Globals, s.Pages, s.Frames = slices.Clone(s.Results), slices.Clone(s.Globals), slices.Clone(s.Pages), slices.Clone(s.Frames)
	for at := range s.Pages {
		s.Pages[at] = slices.Clone(s.Pages[at])
	}
	for at := range s.Frames {
		f := &s.Frames[at]
		f.Locals, f.Stack = slices.Clone(f.Locals), slices.Clone(f.Stack)
	}
	return s
}

// told is a state as a text, all its pages as their lengths alone.
func told(s api.State) string {
	var pages []int
	for _, p := range s.Pages {
		pages = append(pages, len(p))
	}
	s.Pages = nil
	return fmt.Sprintf("%+v and pages %v", s, pages)
}

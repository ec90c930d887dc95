package resume_test

import (
	"bytes"
	"fmt"
	"slices"
	"testing"

	"flagon/api"
	"flagon/text"
)

// The limits and numbers of the document, told once more here so that those of the program are tested, too.
const (
	head        = "FSNP\x01"
	size        = 4096
	high        = 1 << 32 // the first number that is no w
	mostLong    = 1 << 19
	mostUsed    = 1 << 62
	mostReplies = 1<<63 - 1
	most64      = 64 // of globals, pages, frames and locals
	wide        = 1<<64 - 1
	suspended   = 1
	halted      = 2
	trapped     = 3
)

func parsed(t *testing.T, source string) api.Module {
	t.Helper()
	m, e, line := text.Parse(source)
	if e != api.OK {
		t.Fatalf("%q: %d in line %d", source, e, line)
	}
	return m
}

// blank: so many pages of noughts.
func blank(pages int) [][]byte {
	list := make([][]byte, pages)
	for at := range list {
		list[at] = make([]byte, size)
	}
	return list
}

// five is a module of the code w.const 5, end.
func five(t *testing.T) api.Module {
	t.Helper()
	return parsed(t, "flagon\ntype - -> w\nmemory 1 2\nfunc 0 -\nw.const 5\nend\nexport main 0\n")
}

// begun is where five begins.
func begun() api.State {
	return api.State{Frames: []api.Frame{{}}, Pages: blank(1), End: suspended}
}

const source = `flagon
type - -> -
type wl -> lw
type - -> w
type l -> -
type w -> w
extern 4
global w var 5
global l const -1
global l var -2
global w const 7
memory 2 4
func 1 lww
  w.const 1
  l.const 2
  get 0
  get 1
  call 0
  drop
  call 2
  call 1
  call 3
  host 0
  gset 0
  gset 2
  set 3
  w.const 4094
  l.const -3
  l.store 0
  l.const 0
  w.const 0
  end
func 2 -
  block 0
    nop
  end
  l.const 9
  call 2
  w.const 1
  trap
  end
func 3 w
  get 0
  call 2
  call 1
  drop
  end
func 4 l
  get 0
  end
data 16 07ff
export main 0
`

// rich is a module of four functions that call each other, with globals of each kind.
func rich(t *testing.T) api.Module {
	t.Helper()
	return parsed(t, source)
}

// deep is a state of rich that may be: function 0 calls itself, then 2, which calls itself, then 1, which calls 2.
func deep() api.State {
	s := api.State{
		Frames: []api.Frame{
			{Function: 0, Pc: 4, Locals: []uint64{1, 1 << 63, 3, 4, high - 1}, Stack: []uint64{high - 1, wide}},
			{Function: 0, Pc: 6, Locals: []uint64{0, 0, 0, 0, 0}, Stack: []uint64{0, high}},
			{Function: 2, Pc: 1, Locals: []uint64{high, 1}},
			{Function: 2, Pc: 2, Locals: []uint64{7, 8}},
			{Function: 1, Pc: 4},
			{Function: 2, Pc: 3, Locals: []uint64{wide, high - 1}, Stack: []uint64{9}},
		},
		Globals: []uint64{high - 1, wide, 3, 7},
		Pages:   blank(3),
		Replies: 2,
		End:     suspended,
		Used:    77,
	}
	s.Pages[1][size-1], s.Pages[2][0] = 200, 1
	return s
}

// ended is a state of rich that has ended so.
func ended(end int8) api.State {
	s := deep()
	s.Frames, s.End = nil, end
	switch end {
	case halted:
		s.Results = []uint64{1 << 63, 6}
	case trapped:
		s.Trap = 1
	}
	return s
}

// ends: a state of rich that may be, of each way to stand.
func ends() []api.State {
	return []api.State{deep(), ended(halted), ended(trapped)}
}

// tower: so many frames of function 2 of rich, each of which has called itself, but for the last one, which stands at its beginning.
func tower(count int) []api.Frame {
	frames := make([]api.Frame, count)
	for at := range frames {
		frames[at] = api.Frame{Function: 2, Pc: 1, Locals: []uint64{uint64(at), 0}}
	}
	if count > 0 {
		frames[count-1].Pc = 0
	}
	return frames
}

// turned is a copy of s, made without the program, with a change.
func turned(s api.State, change func(s *api.State)) api.State {
	s = cloned(s)
	change(&s)
	return s
}

func cloned(s api.State) api.State {
	s.Results, s.Globals, s.Pages, s.Frames = slices.Clone(s.Results), slices.Clone(s.Globals), slices.Clone(s.Pages), slices.Clone(s.Frames)
	for at := range s.Pages {
		s.Pages[at] = slices.Clone(s.Pages[at])
	}
	for at := range s.Frames {
		f := &s.Frames[at]
		f.Locals, f.Stack = slices.Clone(f.Locals), slices.Clone(f.Stack)
	}
	return s
}

func sameFrame(a, b api.Frame) bool {
	return a.Function == b.Function && a.Pc == b.Pc && slices.Equal(a.Locals, b.Locals) && slices.Equal(a.Stack, b.Stack)
}

// identical: are all fields alike, list by list? Said without the program.
func identical(a, b api.State) bool {
	return a.End == b.End && a.Trap == b.Trap && a.Used == b.Used && a.Replies == b.Replies && slices.Equal(a.Results, b.Results) &&
		slices.Equal(a.Globals, b.Globals) && slices.EqualFunc(a.Pages, b.Pages, bytes.Equal) && slices.EqualFunc(a.Frames, b.Frames, sameFrame)
}

// told is a state as a text; of its pages how many there are.
func told(s api.State) string {
	pages := len(s.Pages)
	s.Pages = nil
	return fmt.Sprintf("%.600s and %d pages", fmt.Sprintf("%+v", s), pages)
}

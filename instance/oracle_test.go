package instance_test

import (
	"bytes"
	"fmt"
	"slices"
	"testing"

	"flagon/api"
	"flagon/frame"
	"flagon/instance"
	"flagon/text"
)

// The limits and numbers of the document, told once more here so that those of the program are tested, too.
const (
	suspended = 1
	size      = 4096
	high      = 1 << 32 // the least number that is no w
	most64    = 64      // of locals, globals, exports, pages and data
)

// read is the module of a text.
func read(t *testing.T, source string) api.Module {
	t.Helper()
	m, e, line := text.Parse(source)
	if e != api.OK {
		t.Fatalf("the text is refused: %d, line %d", e, line)
	}
	return m
}

const source = `flagon
type - -> -
type wl -> lw
type w -> w
type - -> l
extern 2
global w var 5
global l const -1
global l var -2
global w const -7
memory 2 4
func 1 lww
  get 1
  get 0
  end
func 2 l
  get 0
  host 0
  end
func 0 -
  block 0
    nop
  end
  end
func 3 -
  l.const 9
  end
func 0 w
  end
data 16 07ff
data 4094 01020304
export a 2
export ab 0
export abc 1
export b 0
export z 3
`

// rich is a module of several exports, two of which are one function's; function 4 is exported by no name.
func rich(t *testing.T) api.Module {
	t.Helper()
	return read(t, source)
}

// numberOf: the function that is exported by that name; -1, if none is.
func numberOf(m api.Module, name string) int {
	for _, x := range m.Exports {
		if x.Name == name {
			return x.Function
		}
	}
	return -1
}

// byteAt: what lies at that place of the first memory.
func byteAt(m api.Module, at int) byte {
	for _, d := range m.Data {
		if d.At <= at && at < d.At+len(d.B) {
			return d.B[at-d.At]
		}
	}
	return 0
}

// begun: what the document says of Begin, of an export that there is and of arguments that fit it; the memory byte by byte.
func begun(m api.Module, name string, args []uint64) api.State {
	number := numberOf(m, name)
	f := m.Functions[number]
	s := api.State{Frames: []api.Frame{{Function: number, Locals: slices.Clone(args)}}, End: suspended}
	for range f.Locals {
		s.Frames[0].Locals = append(s.Frames[0].Locals, 0)
	}
	for _, g := range m.Globals {
		s.Globals = append(s.Globals, g.Value)
	}
	for k := range m.First {
		page := make([]byte, size)
		for at := range page {
			page[at] = byteAt(m, k*size+at)
		}
		s.Pages = append(s.Pages, page)
	}
	return s
}

// fit: whether those values may be handed to parameters of those letters.
func fit(values []uint64, letters string) bool {
	if len(values) != len(letters) {
		return false
	}
	for at, v := range values {
		if letters[at] == 'w' && v >= high {
			return false
		}
	}
	return true
}

func sameFrame(a, b api.Frame) bool {
	return a.Function == b.Function && a.Pc == b.Pc && slices.Equal(a.Locals, b.Locals) && slices.Equal(a.Stack, b.Stack)
}

// identical: are all fields alike, list by list? Said without the program.
func identical(a, b api.State) bool {
	return a.End == b.End && a.Trap == b.Trap && a.Used == b.Used && a.Replies == b.Replies && slices.Equal(a.Results, b.Results) &&
		slices.Equal(a.Globals, b.Globals) && slices.EqualFunc(a.Pages, b.Pages, bytes.Equal) && slices.EqualFunc(a.Frames, b.Frames, sameFrame)
}

// told is a state as a text; of its pages the bytes that are not 0, each with its place.
func told(s api.State) string {
	var full []string
	for k, p := range s.Pages {
		for at, b := range p {
			if b != 0 && len(full) < 40 {
				full = append(full, fmt.Sprintf("%d:%d", k*size+at, b))
			}
		}
	}
	count := len(s.Pages)
	s.Pages = nil
	return fmt.Sprintf("%+v and %d pages with %v", s, count, full)
}

// is: does Begin answer just that state, which may be, and Signature the type of its function?
func is(t *testing.T, m api.Module, name string, args []uint64, want api.State) {
	t.Helper()
	got, e := instance.Begin(m, name, args)
	if e != api.OK || !identical(got, want) {
		t.Fatalf("P21.2: Begin of %q with %v: %d, %s, not %s", name, args, e, told(got), told(want))
	}
	if e, place := frame.Check(m, got); e != api.OK || place != 0 {
		t.Fatalf("what follows: frame.Check of Begin of %q with %v: %d, %d", name, args, e, place)
	}
	isOf(t, m, name, m.Types[m.Functions[want.Frames[0].Function].Type])
}

// isOf: does Signature answer just that type?
func isOf(t *testing.T, m api.Module, name string, want api.Sig) {
	t.Helper()
	if x, e := instance.Signature(m, name); e != api.OK || x != want {
		t.Fatalf("P21.1: Signature of %q: %q, %d, not %q", name, x, e, want)
	}
}

// begins: is Begin as the document says, of those arguments, which fit?
func begins(t *testing.T, m api.Module, name string, args ...uint64) {
	t.Helper()
	is(t, m, name, args, begun(m, name, args))
}

// unsigned: does Signature answer that error, and nothing beside it?
func unsigned(t *testing.T, m api.Module, name string, want api.Errno) {
	t.Helper()
	if x, e := instance.Signature(m, name); e != want || x != (api.Sig{}) {
		t.Errorf("P21.1: Signature of %q: %q, %d, not %d", name, x, e, want)
	}
}

// refused: does Begin answer that error, and nothing beside it?
func refused(t *testing.T, m api.Module, name string, args []uint64, want api.Errno) {
	t.Helper()
	if s, e := instance.Begin(m, name, args); e != want || !identical(s, api.State{}) {
		t.Errorf("P21.2: Begin of %q with %v: %d, %s, not %d", name, args, e, told(s), want)
	}
}

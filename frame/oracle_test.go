package frame_test

import (
	"math"
	"slices"
	"testing"

	"flagon/api"
	"flagon/frame"
	"flagon/text"
)

// The limits and numbers of the document, told once more here so that those of the program are tested, too.
const (
	suspended = 1
	halted    = 2
	trapped   = 3
	size      = 4096
	most64    = 64
	high      = 1 << 32 // the least number that is no w
	mostUsed  = 1 << 62
	opCall    = 0x0b
)

// kit is a module that may run, with what a state of it is held against: of each function the letters of its locals, parameters first, and the shape at each pc.
type kit struct {
	m      api.Module
	locals []string
	shapes [][]string
}

// place: what the document says of a state: 0, if it may be, else the first place that is not so. All places are asked, and the least one is taken.
func (k kit) place(s api.State) int {
	var wrong []int
	must := func(holds bool, place int) {
		if !holds {
			wrong = append(wrong, place)
		}
	}
	must(s.End == 1 || s.End == 2 || s.End == 3, 1)
	must(s.End == suspended || len(s.Frames) == 0, 2)
	must(s.End != suspended || len(s.Frames) > 0 && len(s.Frames) < 65, 2)
	must(s.End == halted || len(s.Results) == 0, 3)
	must(len(s.Results) < 9, 3)
	must(s.End == trapped || s.Trap == 0, 4)
	must(s.End != trapped || slices.Contains([]int8{1, 2, 3, 4, 5, 6}, s.Trap), 4)
	must(s.Used > -1 && s.Used < mostUsed+1, 5)
	must(s.Replies > -1, 6)
	letters := ""
	for at, g := range k.m.Globals {
		letters += string(rune(g.Letter))
		must(g.Mutable || at >= len(s.Globals) || s.Globals[at] == g.Value, 7)
	}
	must(fit(s.Globals, letters), 7)
	must(len(s.Pages) > k.m.First-1 && len(s.Pages) < k.m.Most+1, 8)
	for _, p := range s.Pages {
		must(len(p) == size, 8)
	}
	for at := range s.Frames {
		must(k.fits(s.Frames, at), 9+at)
	}
	if len(wrong) == 0 {
		return 0
	}
	return slices.Min(wrong)
}

// fits: is the frame at that number one that may be there?
func (k kit) fits(frames []api.Frame, at int) bool {
	f := frames[at]
	if f.Function < 0 || f.Function >= len(k.shapes) || f.Pc < 0 || f.Pc >= len(k.shapes[f.Function]) {
		return false
	}
	stack := k.shapes[f.Function][f.Pc]
	if at < len(frames)-1 {
		x, callee := k.m.Functions[f.Function].Code[f.Pc], frames[at+1].Function
		if x.Op != opCall || x.A != int64(callee) {
			return false
		}
		for range k.m.Types[k.m.Functions[callee].Type].Params {
			stack = stack[:len(stack)-1]
		}
	}
	return fit(f.Locals, k.locals[f.Function]) && fit(f.Stack, stack)
}

func fit(values []uint64, letters string) bool {
	if len(values) != len(letters) {
		return false
	}
	for at, v := range values {
		if letters[at] != 'l' && v > math.MaxUint32 {
			return false
		}
	}
	return true
}

// is: does Check say that place of s (0: it may be), and the oracle, too?
func (k kit) is(t *testing.T, s api.State, place int) {
	t.Helper()
	e := api.ErrState
	if place == 0 {
		e = api.OK
	}
	if got, at := frame.Check(k.m, s); got != e || at != place {
		t.Errorf("P14.1: %d, %d, not %d, %d, of %s", got, at, e, place, told(s))
	}
	if at := k.place(s); at != place {
		t.Errorf("the oracle says %d, not %d, of %s", at, place, told(s))
	}
}

// readKit is the kit of a text, with the shapes of each function's pcs, which are told by hand.
func readKit(t *testing.T, source string, shapes [][]string) kit {
	t.Helper()
	m, e, line := text.Parse(source)
	if e != api.OK {
		t.Fatalf("%d at line %d", e, line)
	}
	k := kit{m: m, shapes: shapes}
	for _, f := range m.Functions {
		k.locals = append(k.locals, m.Types[f.Type].Params+f.Locals)
	}
	return k
}

// TestOracle holds the oracle itself against the chapter's examples.
func TestOracle(t *testing.T) {
	k := five(t)
	s := begun()
	if k.place(s) != 0 {
		t.Error("the beginning")
	}
	s.Frames[0].Pc = 1
	if k.place(s) != 9 {
		t.Error("an empty stack at pc 1")
	}
	s.Frames[0].Stack = []uint64{5}
	if k.place(s) != 0 {
		t.Error("5 at pc 1")
	}
	s.End = halted
	if k.place(s) != 2 {
		t.Error("Halted with frames")
	}
}

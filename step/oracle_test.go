package step_test

import (
	"bytes"
	"slices"
	"strings"
	"testing"

	"flagon/api"
	"flagon/frame"
	"flagon/nums"
	"flagon/step"
	"flagon/validate"
)

// The limits and numbers of the document, told once more here so that those of the program are tested, too.
const (
	suspended = 1
	halted    = 2
	trapped   = 3
	size      = 4096
	most64    = 64
	high      = 1 << 32 // the least number that is no w
	mostUsed  = 1 << 62

	trapOp     = 1
	trapMemory = 2
	trapZero   = 3
	trapRange  = 4
	trapFrames = 5
	trapHost   = 6
)

// model is the chapter read once more: a state of its own, with the code and the shapes of the function that runs. Openers and ends are looked for where they are asked, the memory is one row of bytes.
type model struct {
	m      api.Module
	script []api.Reply
	s      api.State
	f      *api.Frame
	code   []api.Ins
	shapes []string
}

// after is the state behind one step of s, which is suspended and may be.
func after(m api.Module, script []api.Reply, s api.State) api.State {
	tables, _, _, _ := validate.Module(m)
	o := &model{m: m, script: script, s: cloned(s)}
	o.f = &o.s.Frames[len(o.s.Frames)-1]
	o.code, o.shapes = m.Functions[o.f.Function].Code, tables[o.f.Function].Shapes
	if o.s.Used < mostUsed {
		o.s.Used++
	}
	o.execute(o.code[o.f.Pc])
	return o.s
}

// off takes so many values off the top.
func (o *model) off(count int) []uint64 {
	at := len(o.f.Stack) - count
	values := slices.Clone(o.f.Stack[at:])
	o.f.Stack = slices.Clone(o.f.Stack[:at])
	return values
}

// on puts values on the top, and goes on at the next pc.
func (o *model) on(values ...uint64) {
	o.f.Stack = slices.Concat(o.f.Stack, values)
	o.f.Pc++
}

func (o *model) trap(trap int8) {
	o.s.End, o.s.Trap, o.s.Frames = trapped, trap, nil
}

func (o *model) execute(x api.Ins) {
	word := wordOf[x.Op]
	switch word {
	case "trap":
		o.trap(trapOp)
	case "nop", "block", "loop":
		o.on()
	case "if":
		if o.off(1)[0] != 0 {
			o.on()
		} else if other, end := o.parts(o.f.Pc); other >= 0 {
			o.f.Pc = other + 1
		} else {
			o.f.Pc = end
		}
	case "else":
		o.f.Pc = o.endBehind(o.f.Pc + 1)
	case "end":
		if len(o.open()) > 0 {
			o.on()
		} else {
			o.leave()
		}
	case "br":
		o.branch(int(x.A))
	case "brif":
		if o.off(1)[0] != 0 {
			o.branch(int(x.A))
		} else {
			o.on()
		}
	case "brtable":
		i, label := o.off(1)[0], x.L[len(x.L)-1]
		for at, number := range x.L {
			if uint64(at) == i {
				label = number
			}
		}
		o.branch(label)
	case "return":
		o.leave()
	case "call":
		o.call(int(x.A))
	case "host":
		o.host(o.m.Types[o.m.Hosts[x.A]])
	default:
		o.value(word, x)
	}
}

// open: the openers that the pc stands in, the innermost last.
func (o *model) open() []int {
	var list []int
	for pc, x := range o.code[:o.f.Pc] {
		switch wordOf[x.Op] {
		case "block", "loop", "if":
			list = append(list, pc)
		case "end":
			list = list[:len(list)-1]
		}
	}
	return list
}

// endBehind: the end of what is open right ahead of that pc.
func (o *model) endBehind(pc int) int {
	for depth := 1; ; pc++ {
		switch wordOf[o.code[pc].Op] {
		case "block", "loop", "if":
			depth++
		case "end":
			depth--
		}
		if depth == 0 {
			return pc
		}
	}
}

// parts: an opener's else, or -1, and its end.
func (o *model) parts(opener int) (other, end int) {
	end = o.endBehind(opener + 1)
	for pc := opener + 1; pc < end; pc++ {
		switch wordOf[o.code[pc].Op] {
		case "block", "loop", "if":
			pc = o.endBehind(pc + 1)
		case "else":
			return pc, end
		}
	}
	return -1, end
}

func (o *model) branch(number int) {
	open := o.open()
	if number == len(open) {
		o.leave()
		return
	}
	opener := open[len(open)-1-number]
	own := o.m.Types[o.code[opener].A]
	floor := len(o.shapes[opener]) - len(own.Params)
	kept := len(own.Results)
	_, to := o.parts(opener)
	switch wordOf[o.code[opener].Op] {
	case "loop":
		kept, to = len(own.Params), opener
	case "if":
		floor--
	}
	top := o.off(kept)
	o.off(len(o.f.Stack) - floor)
	o.f.Pc = to
	o.on(top...)
}

func (o *model) leave() {
	results := o.off(len(o.m.Types[o.m.Functions[o.f.Function].Type].Results))
	o.s.Frames = slices.Clone(o.s.Frames[:len(o.s.Frames)-1])
	if len(o.s.Frames) == 0 {
		o.s.End, o.s.Results = halted, results
		return
	}
	o.f = &o.s.Frames[len(o.s.Frames)-1]
	o.on(results...)
}

func (o *model) call(function int) {
	if len(o.s.Frames) >= most64 {
		o.trap(trapFrames)
		return
	}
	f := o.m.Functions[function]
	locals := o.off(len(o.m.Types[f.Type].Params))
	for range f.Locals {
		locals = append(locals, 0)
	}
	o.s.Frames = append(o.s.Frames, api.Frame{Function: function, Locals: locals})
}

func (o *model) host(own api.Sig) {
	o.off(len(own.Params))
	if o.s.Replies >= len(o.script) {
		o.trap(trapHost)
		return
	}
	reply := o.script[o.s.Replies]
	o.s.Replies++
	fits := !reply.Trap && len(reply.Results) == len(own.Results)
	for at := 0; fits && at < len(own.Results); at++ {
		fits = own.Results[at] == 'l' || reply.Results[at] < high
	}
	if !fits {
		o.trap(trapHost)
		return
	}
	o.on(reply.Results...)
}

// value does what those instructions do that go on at the next pc, unless they trap.
func (o *model) value(word string, x api.Ins) {
	switch word {
	case "drop":
		o.off(1)
		o.on()
	case "select":
		l := o.off(3)
		if l[2] != 0 {
			o.on(l[0])
		} else {
			o.on(l[1])
		}
	case "get":
		o.on(o.f.Locals[x.A])
	case "set":
		o.f.Locals[x.A] = o.off(1)[0]
		o.on()
	case "tee":
		v := o.off(1)[0]
		o.f.Locals[x.A] = v
		o.on(v)
	case "gget":
		o.on(o.s.Globals[x.A])
	case "gset":
		o.s.Globals[x.A] = o.off(1)[0]
		o.on()
	case "w.const":
		o.on(uint64(x.A+high) % high)
	case "l.const":
		o.on(uint64(x.A))
	case "size":
		o.on(uint64(len(o.s.Pages)))
	case "grow":
		n, before := o.off(1)[0], uint64(len(o.s.Pages))
		if before+n > uint64(o.m.Most) {
			before = high - 1
		} else {
			o.s.Pages = append(o.s.Pages, blank(int(n))...)
		}
		o.on(before)
	default:
		if strings.Contains(word, ".load") || strings.Contains(word, ".store") {
			o.memory(word, x)
			return
		}
		operands := append(o.off(len(plain[word].pops)), 0)
		v, trap := nums.Do(x.Op, operands[0], operands[1])
		if trap != 0 {
			o.trap(trap)
			return
		}
		o.on(v)
	}
}

// width: how many bytes a load or a store moves, by its word.
func width(word string) int {
	switch {
	case strings.Contains(word, "16"):
		return 2
	case strings.Contains(word, "8"):
		return 1
	case word[0] == 'l':
		return 8
	}
	return 4
}

func (o *model) memory(word string, x api.Ins) {
	store, n := strings.Contains(word, "store"), width(word)
	v := uint64(0)
	if store {
		v = o.off(1)[0]
	}
	at, row := o.off(1)[0]+uint64(x.A), bytes.Join(o.s.Pages, nil)
	if at+uint64(n) > uint64(len(row)) {
		o.trap(trapMemory)
		return
	}
	moved := row[at : at+uint64(n)]
	if store {
		for k := range moved {
			moved[k] = byte(v % 256)
			v /= 256
		}
		o.s.Pages = slices.Collect(slices.Chunk(row, size))
		o.on()
		return
	}
	for k := n - 1; k >= 0; k-- {
		v = v*256 + uint64(moved[k])
	}
	if strings.HasSuffix(word, "s") && moved[n-1] > 127 {
		v += high - 1<<(8*n)
	}
	o.on(v)
}

func cloned(s api.State) api.State {
	s.Results, s.Globals, s.Pages, s.Frames = slices.Clone(s.Results), slices.Clone(s.Globals), slices.Clone(s.Pages), slices.Clone(s.Frames)
	for at := range s.Pages {
		s.Pages[at] = slices.Clone(s.Pages[at])
	}
	for at := range s.Frames {
		f := &s.Frames[at]
		f.Locals, f.Stack = slices.Clone(f.Locals), slices.Clone(f.Stack)
	}
	return s
}

func sameFrame(a, b api.Frame) bool {
	return a.Function == b.Function && a.Pc == b.Pc && slices.Equal(a.Locals, b.Locals) && slices.Equal(a.Stack, b.Stack)
}

// identical: frame.Equal, said without the program.
func identical(a, b api.State) bool {
	return a.End == b.End && a.Trap == b.Trap && a.Used == b.Used && a.Replies == b.Replies && slices.Equal(a.Results, b.Results) &&
		slices.Equal(a.Globals, b.Globals) && slices.EqualFunc(a.Pages, b.Pages, bytes.Equal) && slices.EqualFunc(a.Frames, b.Frames, sameFrame)
}

// keeps: does the state behind a step follow from the one ahead as the chapter promises of all steps?
func keeps(t *testing.T, m api.Module, ahead, behind api.State) {
	t.Helper()
	if e, place := frame.Check(m, behind); e != api.OK {
		t.Fatalf("W6: %d at %d of %s", e, place, show(behind))
	}
	if behind.Used != min(ahead.Used+1, mostUsed) {
		t.Fatalf("Used %d behind %d", behind.Used, ahead.Used)
	}
	if len(behind.Pages) < len(ahead.Pages) || len(behind.Globals) != len(ahead.Globals) || behind.Replies < ahead.Replies || behind.Replies-ahead.Replies > 1 {
		t.Fatalf("%s behind %s", show(behind), show(ahead))
	}
	if behind.End != suspended {
		return
	}
	word := wordOf[last(m, ahead).Op]
	same := len(ahead.Frames) - 1
	switch len(behind.Frames) - len(ahead.Frames) {
	case 1:
		if word != "call" {
			t.Fatalf("%s: a frame more", word)
		}
	case -1:
		if !slices.Contains([]string{"return", "end", "br", "brif", "brtable"}, word) {
			t.Fatalf("%s: a frame less", word)
		}
		same--
	case 0:
	default:
		t.Fatalf("%s: %d frames behind %d", word, len(behind.Frames), len(ahead.Frames))
	}
	if !slices.EqualFunc(ahead.Frames[:same], behind.Frames[:same], sameFrame) {
		t.Fatalf("%s changes another frame: %s behind %s", word, show(behind), show(ahead))
	}
}

// last: the instruction that the next step executes.
func last(m api.Module, s api.State) api.Ins {
	f := s.Frames[len(s.Frames)-1]
	return m.Functions[f.Function].Code[f.Pc]
}

// walk goes on by so many steps, one by one, and holds each of them against the model; then all of them at once against these. It answers where it comes to.
func walk(t *testing.T, m api.Module, script []api.Reply, s api.State, n int) api.State {
	t.Helper()
	at := s
	for range n {
		if at.End != suspended {
			break
		}
		f := at.Frames[len(at.Frames)-1]
		if function, pc, e := step.Next(m, at); function != f.Function || pc != f.Pc || e != api.OK {
			t.Fatalf("P16.3: %d, %d, %d of %s", function, pc, e, show(at))
		}
		want := after(m, script, at)
		next, e := step.Step(m, script, at)
		if e != api.OK || !identical(next, want) {
			t.Fatalf("P16.1: %s in %s: %d, %s, not %s, behind %s", wordOf[last(m, at).Op], code(m, f.Function), e, show(next), show(want), show(at))
		}
		keeps(t, m, at, next)
		at = next
	}
	if got, e := step.Steps(m, script, s, n); e != api.OK || !identical(got, at) {
		t.Fatalf("P16.2: %d steps: %d, %s, not %s", n, e, show(got), show(at))
	}
	return at
}

// comes: does a walk of so many steps come there, as it is told by hand?
func comes(t *testing.T, m api.Module, script []api.Reply, s api.State, n int, want string) api.State {
	t.Helper()
	if e, place := frame.Check(m, s); e != api.OK {
		t.Fatalf("%s: %d at %d of %s", code(m, 0), e, place, show(s))
	}
	got := walk(t, m, script, s, n)
	if told := show(got); told != want {
		t.Errorf("%s, %d steps: %s, not %s", code(m, 0), n, told, want)
	}
	return got
}

// runs: does a module, begun with these arguments, end so?
func runs(t *testing.T, m api.Module, want string, args ...uint64) api.State {
	t.Helper()
	return comes(t, m, nil, begun(m, args...), 1000, want)
}

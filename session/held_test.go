package session_test

import (
	"bytes"
	"fmt"
	"math"
	"slices"
	"testing"

	"flagon/api"
	"flagon/meter"
	"flagon/module"
	"flagon/session"
	"flagon/step"
)

// The limits and numbers of the document, told once more here so that those of the program are tested, too.
const (
	suspended = 1
	halted    = 2
	trapped   = 3
	size      = 4096
	most64    = 64
	high      = 1 << 32 // the least number that is no w
	mostUsed  = 1 << 62

	bySlow = 0
	byFast = 1

	trapOp     = 1
	trapMemory = 2
	trapHost   = 6
)

// edges are numbers at the ends of both letters' ranges.
func edges() []uint64 {
	return []uint64{0, 1, 2, 7, 31, 32, 33, 63, 64, 1<<31 - 1, 1 << 31, 1<<31 + 1, high - 2, high - 1, high, high + 1, math.MaxInt64, 1 << 63, 1<<63 + 1, math.MaxUint64 - 1, math.MaxUint64}
}

func cloned(s api.State) api.State {
	s.Results, s.Globals, s.Pages, s.Frames = slices.Clone(s.Results), slices.Clone(s.Globals), slices.Clone(s.Pages), slices.Clone(s.Frames)
	for at := range s.Pages {
		s.Pages[at] = slices.Clone(s.Pages[at])
	}
	for at := range s.Frames {
		f := &s.Frames[at]
		f.Locals, f.Stack = slices.Clone(f.Locals), slices.Clone(f.Stack)
	}
	return s
}

func sameFrame(a, b api.Frame) bool {
	return a.Function == b.Function && a.Pc == b.Pc && slices.Equal(a.Locals, b.Locals) && slices.Equal(a.Stack, b.Stack)
}

// identical: frame.Equal, said without the program.
func identical(a, b api.State) bool {
	return a.End == b.End && a.Trap == b.Trap && a.Used == b.Used && a.Replies == b.Replies && slices.Equal(a.Results, b.Results) &&
		slices.Equal(a.Globals, b.Globals) && slices.EqualFunc(a.Pages, b.Pages, bytes.Equal) && slices.EqualFunc(a.Frames, b.Frames, sameFrame)
}

// small is a run that ends behind so many steps, or is looked at for so many of them.
type small struct {
	m      api.Module
	script []api.Reply
	s      api.State
	steps  int
}

// smalls are short runs of each kind: halting, trapping, endless; with calls, hosts, a memory.
func smalls() []small {
	five := paged(1, 2, ">w", "", "w.const:5 end")
	loop := of("w>w", "", "loop:> get:0 w.const:1 w.sub tee:0 brif:0 end w.const:7 end")
	fact := of("l>l", "", "get:0 l.eqz if:>l l.const:1 else get:0 get:0 l.const:1 l.sub call:0 l.mul end end")
	round := paged(0, 3, ">", "", "loop:> w.const:1 grow drop w.const:4095 w.const:9 w.store8 br:0 end end")
	trap := of(">w", "", "w.const:1 w.const:0 w.divs end")
	endless := of(">", "", "call:0 end")
	return []small{
		{five, nil, begun(five), 2},
		{loop, nil, begun(loop, 3), 19},
		{fact, nil, begun(fact, 3), 40},
		{round, nil, begun(round), 30},
		{trap, nil, begun(trap), 3},
		{endless, nil, begun(endless), 64},
		{rich(), []api.Reply{{}, {Results: []uint64{5}}}, begun(rich(), 7), 22},
		{rich(), []api.Reply{{}, {Trap: true}}, begun(rich(), 7), 16},
		{rich(), nil, begun(rich(), 7), 13},
		{rich(), nil, deep(), 9},
	}
}

// runs are all that are gone through here.
func runs() []small {
	return append(smalls(), segmented()...)
}

// late is the same run near the most that can be used.
func late(x small, below int64) small {
	x.s = cloned(x.s)
	x.s.Used = mostUsed - below
	return x
}

// rich is a module of two functions, with hosts, globals of each kind and a memory.
func rich() api.Module {
	m := api.Module{First: 1, Most: 3, Globals: []api.Global{{Letter: 'w', Mutable: true, Value: 5}, {Letter: 'l', Value: math.MaxUint64}, {Letter: 'l', Mutable: true, Value: 9}}}
	m.Hosts = []int{kind(&m, "w>l"), kind(&m, ">")}
	put(&m, "w>wl", "l", "get:0 call:1 host:0 set:1 get:0 w.const:1 w.add get:1 end")
	put(&m, "w>w", "", "get:0 gget:2 gset:2 gset:0 w.const:16 l.const:-2 l.store:4 w.const:1 grow drop host:1 gget:0 end")
	return m
}

// deep is a state of rich in which function 0 has called function 1.
func deep() api.State {
	return api.State{
		Frames:  []api.Frame{{Pc: 1, Locals: []uint64{3, 4}}, {Function: 1, Pc: 2, Locals: []uint64{7}, Stack: []uint64{7, 8}}},
		Globals: []uint64{high - 1, math.MaxUint64, 1 << 63},
		Pages:   blank(2),
		Replies: 2,
		End:     suspended,
		Used:    77,
	}
}

// ended is a state of rich that has ended so.
func ended(end int8) api.State {
	s := deep()
	s.Frames, s.End = nil, end
	if end == trapped {
		s.Trap = trapMemory
	} else {
		s.Results = []uint64{math.MaxUint64, 0}
	}
	return s
}

// counting goes round for ever, five steps each time, and counts the rounds.
func counting() api.Module {
	return of("l>", "", "loop:> get:0 l.const:1 l.add set:0 br:0 end end")
}

// round: where counting stands behind so many steps.
func round(steps int64) string {
	if steps == 0 {
		return "frame 0 at 0 locals 0 stack"
	}
	rounds, more := (steps-1)/5, (steps-1)%5
	stack := []string{"", fmt.Sprint(" ", rounds), fmt.Sprint(" ", rounds, " 1"), fmt.Sprint(" ", rounds+1), ""}[more]
	if more == 4 {
		rounds++
	}
	return fmt.Sprint("frame 0 at ", 1+more, " locals ", rounds, " stack", stack)
}

// single is each state on a way of so many single steps, the first one too, or of fewer, if the run ends.
func single(t *testing.T, x small, most int) []api.State {
	t.Helper()
	s := x.s
	way := []api.State{s}
	for len(way) <= most && s.End == suspended {
		var e api.Errno
		if s, e = step.Step(x.m, x.script, s); e != api.OK {
			t.Fatalf("a step: %d", e)
		}
		way = append(way, s)
	}
	return way
}

// named is the same module, each of whose functions is exported by f and its number.
func named(m api.Module) api.Module {
	m.Exports = nil
	for at := range m.Functions {
		m.Exports = append(m.Exports, api.Export{Name: fmt.Sprint("f", at), Function: at})
	}
	return m
}

// octets: module.Encode where it may not refuse.
func octets(t *testing.T, m api.Module) []byte {
	t.Helper()
	b, e := module.Encode(m)
	if e != api.OK {
		t.Fatalf("P5.2: %d", e)
	}
	return b
}

// fresh is a new session.
func fresh(t *testing.T) *session.Session {
	t.Helper()
	s := session.New()
	if s == nil {
		t.Fatal("New: none")
	}
	return s
}

// loads is Load where it may not refuse.
func loads(t *testing.T, s *session.Session, b []byte) {
	t.Helper()
	if e, at, pc := s.Load(b); e != api.OK || at != 0 || pc != 0 {
		t.Fatalf("P29.1: Load: %d at %d, %d", e, at, pc)
	}
}

// texts is Text where it may not refuse.
func texts(t *testing.T, s *session.Session, source string) {
	t.Helper()
	if e, at, pc := s.Text(source); e != api.OK || at != 0 || pc != 0 {
		t.Fatalf("P29.1: Text: %d at %d, %d of %q", e, at, pc, source)
	}
}

// scripts is Script where it may not refuse.
func scripts(t *testing.T, s *session.Session, list ...api.Reply) {
	t.Helper()
	if e := s.Script(list); e != api.OK {
		t.Fatalf("P29.3: %d", e)
	}
}

// begins is Begin where it may not refuse.
func begins(t *testing.T, s *session.Session, export string, args ...uint64) {
	t.Helper()
	if e := s.Begin(export, args); e != api.OK {
		t.Fatalf("P29.4: %s: %d", export, e)
	}
}

// goes is Run where it may not refuse.
func goes(t *testing.T, s *session.Session, engine int8, fuel int64) meter.Counts {
	t.Helper()
	c, e := s.Run(engine, fuel)
	if e != api.OK {
		t.Fatalf("P29.5: Run(%d, %d): %d", engine, fuel, e)
	}
	return c
}

// saves is Save where it may not refuse.
func saves(t *testing.T, s *session.Session) []byte {
	t.Helper()
	b, e := s.Save()
	if e != api.OK {
		t.Fatalf("P29.6: Save: %d", e)
	}
	return b
}

// restores is Restore where it may not refuse.
func restores(t *testing.T, s *session.Session, b []byte) {
	t.Helper()
	if e, at := s.Restore(b); e != api.OK || at != 0 {
		t.Fatalf("P29.6: Restore: %d at %d", e, at)
	}
}

// state is State where it may not refuse.
func state(t *testing.T, s *session.Session) api.State {
	t.Helper()
	x, e := s.State()
	if e != api.OK {
		t.Fatalf("P29.7: %d", e)
	}
	return x
}

// stands: is that the state, as it is told by hand?
func stands(t *testing.T, s *session.Session, want string) {
	t.Helper()
	if got := show(state(t, s)); got != want {
		t.Errorf("P29.7: %s, not %s", got, want)
	}
}

// none: do all calls that need a state answer that there is none?
func none(t *testing.T, s *session.Session) {
	t.Helper()
	if x, e := s.State(); e != api.ErrNone || !identical(x, api.State{}) {
		t.Errorf("P29.7: State without a state: %d, %s", e, show(x))
	}
	if b, e := s.Save(); e != api.ErrNone || len(b) != 0 {
		t.Errorf("P29.6: Save without a state: %d, % x", e, b)
	}
	for _, engine := range []int8{bySlow, byFast, 2, -1} {
		for _, fuel := range []int64{0, 1, -1} {
			if c, e := s.Run(engine, fuel); e != api.ErrNone || c != (meter.Counts{}) {
				t.Errorf("P29.5: Run(%d, %d) without a state: %d, %v", engine, fuel, e, c)
			}
		}
	}
}

// bare: do all calls that need a module, too?
func bare(t *testing.T, s *session.Session) {
	t.Helper()
	if source, e := s.Source(); e != api.ErrNone || source != "" {
		t.Errorf("P29.2: Source without a module: %d, %q", e, source)
	}
	if b, e := s.Bytes(); e != api.ErrNone || len(b) != 0 {
		t.Errorf("P29.2: Bytes without a module: %d, % x", e, b)
	}
	for _, export := range []string{"", "main", "f0"} {
		if e := s.Begin(export, nil); e != api.ErrNone {
			t.Errorf("P29.4: Begin(%q) without a module: %d", export, e)
		}
	}
	for _, b := range [][]byte{nil, {0}, []byte("FSNP\x01\x02\x00\x00\x00\x00\x00\x00\x00\x00")} {
		if e, at := s.Restore(b); e != api.ErrNone || at != 0 {
			t.Errorf("P29.6: Restore(% x) without a module: %d at %d", b, e, at)
		}
	}
	none(t, s)
}

// open is a session with that module and script, and in that state.
func open(t *testing.T, x small) *session.Session {
	t.Helper()
	s := fresh(t)
	loads(t, s, octets(t, x.m))
	scripts(t, s, x.script...)
	restores(t, s, raw(x.s))
	return s
}

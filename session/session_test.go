package session_test

import (
	"bytes"
	"fmt"
	"math"
	"testing"

	"flagon/api"
	"flagon/meter"
	"flagon/session"
)

// sixth is chapter 6's example, with a w.const ahead of its brtable, so that it may run.
const sixth = `flagon
type w -> w
global l const -1
memory 1 1
func 0 l
  get 0
  w.const 0
  brtable 0 0
  end
data 16 07
export f; 0
`

// fives is a module of one function, which leaves 5.
const fives = "flagon\ntype - -> w\nmemory 1 2\nfunc 0 -\n  w.const 5\n  end\nexport main 0\n"

// asking asks its host thrice, each time with what it answered, and leaves the last answer.
const asking = `flagon
type w -> w
extern 0
memory 0 0
func 0 -
  get 0
  host 0
  host 0
  host 0
  end
export ask 0
`

// counts are meter's, told as a row.
func counts(c meter.Counts) string {
	return fmt.Sprint(c.Executed, c.Asked, c.Paid, c.Back, c.Entered)
}

// values are replies of one number each.
func values(list ...uint64) []api.Reply {
	var out []api.Reply
	for _, v := range list {
		out = append(out, api.Reply{Results: []uint64{v}})
	}
	return out
}

// TestExamples: the chapter's.
func TestExamples(t *testing.T) {
	for _, x := range []struct {
		source, export string
		args           []uint64
		want           string
	}{
		{sixth, "f;", []uint64{5}, "halted used 3 results 5 globals 18446744073709551615 pages 1 1"},
		{fives, "main", nil, "halted used 2 results 5 pages 1 0"},
	} {
		s := fresh(t)
		texts(t, s, x.source)
		begins(t, s, x.export, x.args...)
		goes(t, s, meter.Slow, 1)
		saved := saves(t, s)
		for range 3 {
			goes(t, s, meter.Fast, 100)
			stands(t, s, x.want)
			restores(t, s, saved)
		}
	}
	bare(t, fresh(t))
}

// TestNew: a new session has nothing, and takes a module by Load as by Text.
func TestNew(t *testing.T) {
	s := fresh(t)
	for range 2 {
		bare(t, s)
	}
	texts(t, s, fives)
	b, _ := s.Bytes()
	other := fresh(t)
	loads(t, other, b)
	for _, s := range []*session.Session{s, other} {
		none(t, s)
		if source, e := s.Source(); e != api.OK || source != fives {
			t.Errorf("P29.2: %d, %q", e, source)
		}
		if got, e := s.Bytes(); e != api.OK || !bytes.Equal(got, b) {
			t.Errorf("P29.2: %d, % x", e, got)
		}
	}
}

// TestEngines: the engines have the document's numbers.
func TestEngines(t *testing.T) {
	if meter.Slow != bySlow || meter.Fast != byFast {
		t.Errorf("P20.1: the engines are %d and %d", meter.Slow, meter.Fast)
	}
}

// TestEncoded: what Load was handed is what Bytes tells; what Source tells is read as the same module.
func TestEncoded(t *testing.T) {
	b := []byte("FLGN\x01\x01\x00\x01w\x00\x00\x00\x00\x01\x00\x00\x02\x18\x0a\x06\x00\x01\x01f\x00")
	const source = "flagon\ntype - -> w\nmemory 0 0\nfunc 0 -\n  w.const 5\n  end\nexport f 0\n"
	s := fresh(t)
	loads(t, s, b)
	if got, e := s.Bytes(); e != api.OK || !bytes.Equal(got, b) {
		t.Errorf("P29.2: Bytes: %d, % x", e, got)
	}
	if got, e := s.Source(); e != api.OK || got != source {
		t.Errorf("P29.2: Source: %d, %q", e, got)
	}
	texts(t, s, "; a remark\n\n  flagon\ntype  - -> w\r\n\tmemory 0 0\nfunc 0 -\nw.const 5\n end\nexport f 0")
	if got, e := s.Bytes(); e != api.OK || !bytes.Equal(got, b) {
		t.Errorf("P29.2: Bytes of a text: %d, % x", e, got)
	}
	if got, e := s.Source(); e != api.OK || got != source {
		t.Errorf("P29.2: Source of a text: %d, %q", e, got)
	}
}

// TestNothing: a module of nothing is one.
func TestNothing(t *testing.T) {
	s := fresh(t)
	loads(t, s, []byte("FLGN\x01\x00\x00\x00\x00\x00\x00\x00\x00"))
	if source, e := s.Source(); e != api.OK || source != "flagon\nmemory 0 0\n" {
		t.Errorf("P29.2: %d, %q", e, source)
	}
	if e := s.Begin("", nil); e != api.ErrExport {
		t.Errorf("P29.4: %d", e)
	}
	none(t, s)
	for want, x := range map[string]api.State{
		"halted used 7 results 1 2":       {End: halted, Used: 7, Results: []uint64{1, 2}},
		"trapped used 0 trap 6 replies 3": {End: trapped, Trap: trapHost, Replies: 3},
	} {
		restores(t, s, raw(x))
		stands(t, s, want)
	}
}

// TestScriptAhead: a script may be said ahead of a module; a module that comes empties it. It is none that begins a run.
func TestScriptAhead(t *testing.T) {
	s := fresh(t)
	scripts(t, s, values(5, 6, 7)...)
	bare(t, s)
	texts(t, s, asking)
	begins(t, s, "ask", 1)
	goes(t, s, bySlow, 99)
	stands(t, s, "trapped used 2 trap 6")
	scripts(t, s, values(5, 6, 7)...)
	stands(t, s, "trapped used 2 trap 6")
	begins(t, s, "ask", 1)
	goes(t, s, byFast, 99)
	stands(t, s, "halted used 5 results 7 replies 3")
	begins(t, s, "ask", 1)
	goes(t, s, bySlow, 99)
	stands(t, s, "halted used 5 results 7 replies 3")
}

// TestScriptMidway: a run goes on with the script that is said while it stands: as many as it has taken are passed over.
func TestScriptMidway(t *testing.T) {
	for _, x := range []struct {
		more []api.Reply
		want string
	}{
		{values(10, 20, 30), "halted used 5 results 30 replies 3"},
		{values(10, 20, 30, 40), "halted used 5 results 30 replies 3"},
		{values(10, 20), "trapped used 4 trap 6 replies 2"},
		{values(10), "trapped used 3 trap 6 replies 1"},
		{nil, "trapped used 3 trap 6 replies 1"},
		{[]api.Reply{{Trap: true}, {Results: []uint64{2}}, {Trap: true}}, "trapped used 4 trap 6 replies 3"},
		{[]api.Reply{{Trap: true}, {Results: []uint64{2}}, {Results: []uint64{3}}}, "halted used 5 results 3 replies 3"},
		{[]api.Reply{{}, {}, {}}, "trapped used 3 trap 6 replies 2"},
	} {
		for _, engine := range []int8{bySlow, byFast} {
			s := fresh(t)
			texts(t, s, asking)
			scripts(t, s, values(5, 6, 7)...)
			begins(t, s, "ask", 1)
			goes(t, s, engine, 2)
			scripts(t, s, x.more...)
			stands(t, s, "suspended used 2 frame 0 at 2 locals 1 stack 5 replies 1")
			goes(t, s, engine, 99)
			stands(t, s, x.want)
		}
	}
}

// TestScriptUnfit: replies that fit nothing are no error of Script; a run traps where it takes one.
func TestScriptUnfit(t *testing.T) {
	for _, list := range [][]api.Reply{{{Results: []uint64{high}}}, {{Results: []uint64{1, 2}}}, {{}}, {{Trap: true}}, {{Results: []uint64{1}, Trap: true}}, {{Results: []uint64{math.MaxUint64}}}} {
		s := fresh(t)
		scripts(t, s, list...)
		texts(t, s, asking)
		scripts(t, s, list...)
		begins(t, s, "ask", 1)
		goes(t, s, byFast, 99)
		stands(t, s, "trapped used 2 trap 6 replies 1")
	}
}

// TestScriptStays: neither a beginning nor what is restored, nor what is refused, changes the script.
func TestScriptStays(t *testing.T) {
	s := fresh(t)
	texts(t, s, asking)
	scripts(t, s, values(5, 6, 7)...)
	begins(t, s, "ask", 1)
	saved := saves(t, s)
	for range 2 {
		goes(t, s, byFast, 3)
		middle := saves(t, s)
		goes(t, s, byFast, 99)
		stands(t, s, "halted used 5 results 7 replies 3")
		restores(t, s, middle)
		s.Load(nil)
		s.Text("")
		s.Begin("none", nil)
		s.Restore(nil)
		goes(t, s, bySlow, 99)
		stands(t, s, "halted used 5 results 7 replies 3")
		restores(t, s, saved)
	}
}

// TestBegin: errors of Begin by name; the state stays, or there is none still.
func TestBegin(t *testing.T) {
	s := fresh(t)
	texts(t, s, sixth)
	wrong := func() {
		for _, x := range []struct {
			export string
			args   []uint64
			want   api.Errno
		}{
			{"", []uint64{5}, api.ErrExport},
			{"f", []uint64{5}, api.ErrExport},
			{"f;;", []uint64{5}, api.ErrExport},
			{"F;", []uint64{5}, api.ErrExport},
			{"f; ", nil, api.ErrExport},
			{"f;", nil, api.ErrParams},
			{"f;", []uint64{}, api.ErrParams},
			{"f;", []uint64{1, 2}, api.ErrParams},
			{"f;", []uint64{high}, api.ErrParams},
			{"f;", []uint64{math.MaxUint64}, api.ErrParams},
		} {
			if e := s.Begin(x.export, x.args); e != x.want {
				t.Errorf("P29.4: Begin(%q, %d): %d, not %d", x.export, x.args, e, x.want)
			}
		}
	}
	wrong()
	none(t, s)
	begins(t, s, "f;", 5)
	const begun = "suspended used 0 frame 0 at 0 locals 5 0 stack globals 18446744073709551615 pages 1 1"
	stands(t, s, begun)
	wrong()
	stands(t, s, begun)
	goes(t, s, bySlow, 2)
	const midway = "suspended used 2 frame 0 at 2 locals 5 0 stack 5 0 globals 18446744073709551615 pages 1 1"
	wrong()
	stands(t, s, midway)
	goes(t, s, bySlow, 2)
	const done = "halted used 3 results 5 globals 18446744073709551615 pages 1 1"
	wrong()
	stands(t, s, done)
	begins(t, s, "f;", high-1)
	stands(t, s, "suspended used 0 frame 0 at 0 locals 4294967295 0 stack globals 18446744073709551615 pages 1 1")
}

// TestBeginAgain: a second beginning takes the place of the run that stands, wherever it stands: nothing is left of it.
func TestBeginAgain(t *testing.T) {
	m := named(rich())
	script := []api.Reply{{}, {Results: []uint64{5}}}
	const first = "suspended used 0 frame 0 at 0 locals 7 0 stack globals 5 18446744073709551615 9 pages 1 0"
	const last = "halted used 22 results 8 5 globals 7 18446744073709551615 9 pages 2 8 replies 2"
	for gone := range int64(24) {
		s := fresh(t)
		loads(t, s, octets(t, m))
		scripts(t, s, script...)
		begins(t, s, "f0", 7)
		stands(t, s, first)
		if gone < 23 {
			goes(t, s, byFast, gone)
		}
		begins(t, s, "f1", 3)
		stands(t, s, "suspended used 0 frame 1 at 0 locals 3 stack globals 5 18446744073709551615 9 pages 1 0")
		begins(t, s, "f0", 7)
		stands(t, s, first)
		goes(t, s, bySlow, 99)
		stands(t, s, last)
	}
}

// TestCounts: what Run tells is what meter.Run tells, of each engine; and a run goes on where it stands.
func TestCounts(t *testing.T) {
	const ahead, between, behind = "suspended used 0 frame 0 at 0 locals stack pages 1 0", "suspended used 1 frame 0 at 1 locals stack 5 pages 1 0", "halted used 2 results 5 pages 1 0"
	for _, x := range []struct {
		engine int8
		fuels  []int64
		counts []string
		want   string
	}{
		{bySlow, []int64{0}, []string{"0 1 0 0 0"}, ahead},
		{bySlow, []int64{1}, []string{"1 2 1 0 0"}, between},
		{bySlow, []int64{2}, []string{"2 2 2 0 0"}, behind},
		{bySlow, []int64{9}, []string{"2 2 2 0 0"}, behind},
		{bySlow, []int64{1, 0, 1}, []string{"1 2 1 0 0", "0 1 0 0 0", "1 1 1 0 0"}, behind},
		{bySlow, []int64{math.MaxInt64}, []string{"2 2 2 0 0"}, behind},
		{byFast, []int64{0}, []string{"0 2 0 0 1"}, ahead},
		{byFast, []int64{1}, []string{"1 3 1 0 1"}, between},
		{byFast, []int64{2}, []string{"2 1 2 0 1"}, behind},
		{byFast, []int64{9}, []string{"2 1 2 0 1"}, behind},
		{byFast, []int64{1, 0, 1}, []string{"1 3 1 0 1", "0 2 0 0 1", "1 1 1 0 1"}, behind},
		{byFast, []int64{math.MaxInt64}, []string{"2 1 2 0 1"}, behind},
	} {
		s := fresh(t)
		texts(t, s, fives)
		begins(t, s, "main")
		for at, fuel := range x.fuels {
			if got := counts(goes(t, s, x.engine, fuel)); got != x.counts[at] {
				t.Errorf("P29.5: engine %d, fuel %d of %d: %s, not %s", x.engine, fuel, x.fuels, got, x.counts[at])
			}
		}
		stands(t, s, x.want)
	}
}

// TestRunRefused: errors of Run by name, in their order; the state stays, and nothing is counted.
func TestRunRefused(t *testing.T) {
	s := fresh(t)
	texts(t, s, fives)
	begins(t, s, "main")
	for _, fuel := range []int64{0, 1, 1} {
		goes(t, s, byFast, fuel)
		before := state(t, s)
		refuses := func(engine int8, fuel int64, want api.Errno) {
			t.Helper()
			if c, e := s.Run(engine, fuel); e != want || c != (meter.Counts{}) {
				t.Errorf("P29.5: Run(%d, %d): %d, %v, not %d", engine, fuel, e, c, want)
			}
			if got := state(t, s); !identical(got, before) {
				t.Errorf("P29.5: Run(%d, %d): %s", engine, fuel, show(got))
			}
		}
		for _, fuel := range []int64{0, 1, 100, math.MaxInt64, -1, math.MinInt64} {
			for engine := math.MinInt8; engine <= math.MaxInt8; engine++ {
				switch {
				case engine != bySlow && engine != byFast:
					refuses(int8(engine), fuel, api.ErrArg)
				case fuel < 0:
					refuses(int8(engine), fuel, api.ErrFuel)
				case before.End != suspended:
					refuses(int8(engine), fuel, api.ErrDone)
				}
			}
		}
	}
	stands(t, s, "halted used 2 results 5 pages 1 0")
}

// TestTraps: what has trapped is a state like others, from which no run goes on.
func TestTraps(t *testing.T) {
	s := fresh(t)
	texts(t, s, "flagon\ntype ww -> w\nmemory 0 0\nfunc 0 -\n  get 0\n  get 1\n  w.divs\n  end\nexport div 0\n")
	for _, x := range []struct {
		engine int8
		args   []uint64
		counts string
		want   string
	}{
		{bySlow, []uint64{7, high - 2}, "4 4 4 0 0", "halted used 4 results 4294967293"},
		{bySlow, []uint64{7, 0}, "3 3 3 0 0", "trapped used 3 trap 3"},
		{byFast, []uint64{1 << 31, high - 1}, "3 1 4 1 1", "trapped used 3 trap 4"},
	} {
		begins(t, s, "div", x.args...)
		if got := counts(goes(t, s, x.engine, 9)); got != x.counts {
			t.Errorf("P29.5: %s, not %s", got, x.counts)
		}
		stands(t, s, x.want)
		if _, e := s.Run(x.engine, 9); e != api.ErrDone {
			t.Errorf("P29.5: of what has ended: %d", e)
		}
		saved := saves(t, s)
		begins(t, s, "div", 1, 1)
		restores(t, s, saved)
		stands(t, s, x.want)
	}
}

// TestState: the state at each step of a run, as often as one likes; to ask for it, or to save it, changes nothing.
func TestState(t *testing.T) {
	for _, x := range runs() {
		s := open(t, x)
		for at, want := range single(t, x, x.steps) {
			if at > 0 {
				goes(t, s, int8(at%2), 1)
			}
			for range 2 {
				if got := state(t, s); !identical(got, want) {
					t.Fatalf("P29.7: at %d: %s, not %s", at, show(got), show(want))
				}
				if got := saves(t, s); !bytes.Equal(got, raw(want)) {
					t.Fatalf("P29.6: at %d: % x", at, got)
				}
			}
		}
	}
}

// TestNone: a nil session, and one that New did not make: ErrArg and zero values, of whatever it is handed.
func TestNone(t *testing.T) {
	var plain session.Session
	b := octets(t, named(of(">w", "", "w.const:5 end")))
	saved := raw(begun(of(">w", "", "w.const:5 end")))
	for _, s := range []*session.Session{nil, {}, new(session.Session), &plain} {
		for range 2 {
			for _, b := range [][]byte{nil, {0}, b, b[1:], saved} {
				if e, at, pc := s.Load(b); e != api.ErrArg || at != 0 || pc != 0 {
					t.Errorf("P29.8: Load: %d at %d, %d", e, at, pc)
				}
				if e, at := s.Restore(b); e != api.ErrArg || at != 0 {
					t.Errorf("P29.8: Restore: %d at %d", e, at)
				}
			}
			for _, source := range []string{"", "x", fives, "flagon\ntype - -> w\nmemory 0 0\nfunc 0 -\n  end\n"} {
				if e, at, pc := s.Text(source); e != api.ErrArg || at != 0 || pc != 0 {
					t.Errorf("P29.8: Text: %d at %d, %d", e, at, pc)
				}
			}
			if e := s.Script(nil); e != api.ErrArg {
				t.Errorf("P29.8: Script: %d", e)
			}
			if e := s.Script(values(1)); e != api.ErrArg {
				t.Errorf("P29.8: Script: %d", e)
			}
			if source, e := s.Source(); e != api.ErrArg || source != "" {
				t.Errorf("P29.8: Source: %d, %q", e, source)
			}
			if b, e := s.Bytes(); e != api.ErrArg || len(b) != 0 {
				t.Errorf("P29.8: Bytes: %d, % x", e, b)
			}
			if e := s.Begin("f0", nil); e != api.ErrArg {
				t.Errorf("P29.8: Begin: %d", e)
			}
			for _, fuel := range []int64{-1, 0, 1} {
				if c, e := s.Run(bySlow, fuel); e != api.ErrArg || c != (meter.Counts{}) {
					t.Errorf("P29.8: Run: %d, %v", e, c)
				}
			}
			if b, e := s.Save(); e != api.ErrArg || len(b) != 0 {
				t.Errorf("P29.8: Save: %d, % x", e, b)
			}
			if x, e := s.State(); e != api.ErrArg || !identical(x, api.State{}) {
				t.Errorf("P29.8: State: %d", e)
			}
		}
	}
}

package resume_test

import (
	"bytes"
	"math/rand"
	"slices"
	"testing"

	"flagon/api"
	"flagon/fast"
	"flagon/instance"
	"flagon/resume"
	"flagon/slow"
	"flagon/step"
)

// runs: from s both engines, with each of these fuels, come to the same state, which may be, and consume all of the fuel, if they are suspended; from a state that has ended none goes on.
func runs(t *testing.T, m api.Module, script []api.Reply, s api.State, fuels ...int64) {
	t.Helper()
	for _, fuel := range fuels {
		one, e := slow.Run(m, script, s, fuel)
		other, e2 := fast.Run(m, script, s, fuel)
		if s.End != suspended {
			if e != api.ErrDone || e2 != api.ErrDone {
				t.Fatalf("W3: from %s: %d, %d", told(s), e, e2)
			}
			continue
		}
		if e != api.OK || e2 != api.OK || !identical(one, other) {
			t.Fatalf("W3: from %s with fuel %d: %d, %s; %d, %s", told(s), fuel, e, told(one), e2, told(other))
		}
		steps, e := step.Steps(m, script, s, int(fuel))
		if e != api.OK || !identical(one, steps) {
			t.Fatalf("W3: from %s, %d steps: %d, %s, not %s", told(s), fuel, e, told(steps), told(one))
		}
		if spent := one.Used - s.Used; one.Used < mostUsed && (spent > fuel || one.End == suspended && spent != fuel) {
			t.Fatalf("W3: from %s with fuel %d: consumed %d", told(s), fuel, spent)
		}
		both(t, m, one)
	}
}

// TestDrawn: states that may be are written and read as themselves; both engines go on from what is read, and end alike.
func TestDrawn(t *testing.T) {
	r := rand.New(rand.NewSource(231))
	for _, m := range programs(t) {
		for range 60 {
			s := drawnState(r, m)
			both(t, m, s)
			read, e := agrees(t, m, raw(s))
			if e != api.OK || !judged(t, m, s) {
				t.Fatalf("W3: %s: %d", told(s), e)
			}
			runs(t, m, drawnScript(r), read, 0, 1, 2, int64(r.Intn(40)), 200)
		}
	}
}

// TestShuffled: states that may be, and others, told as bytes: Read and Write answer what the document says, and engines go on from what is read.
func TestShuffled(t *testing.T) {
	r := rand.New(rand.NewSource(232))
	may, not := 0, 0
	for _, m := range programs(t) {
		for range 120 {
			s := drawnState(r, m)
			for range 5 {
				s = shuffled(r, m, s)
				read, e := agrees(t, m, raw(s))
				if judged(t, m, s) != (e == api.OK) {
					t.Fatalf("W3: Read and Write do not agree of %s: %d", told(s), e)
				}
				if e != api.OK {
					not++
					continue
				}
				may++
				runs(t, m, drawnScript(r), read, 1, int64(r.Intn(30)))
			}
		}
	}
	if may < 500 || not < 1500 {
		t.Errorf("the drawing is too thin: %d states may be, %d may not", may, not)
	}
}

// TestOthers: states of one module, told to another one.
func TestOthers(t *testing.T) {
	r := rand.New(rand.NewSource(233))
	for _, a := range programs(t) {
		for _, b := range programs(t) {
			for range 10 {
				s := drawnState(r, a)
				if read, e := agrees(t, b, raw(s)); e == api.OK {
					runs(t, b, drawnScript(r), read, 1, 20)
				}
				judged(t, b, s)
			}
		}
	}
}

// without is s with pages of noughts, so that its bytes are few.
func without(s api.State) api.State {
	return turned(s, func(s *api.State) { s.Pages = blank(len(s.Pages)) })
}

// TestTurned: single bytes turned, each into every other one: what is still accepted is written as just those bytes, and both engines go on from it and end alike.
func TestTurned(t *testing.T) {
	r := rand.New(rand.NewSource(234))
	kept, forged := 0, 0
	for _, m := range programs(t) {
		list := []api.State{without(drawnState(r, m)), {End: suspended, Pages: blank(m.First), Frames: drawnFrames(r, m, 3)}}
		for _, g := range m.Globals {
			list[1].Globals = append(list[1].Globals, g.Value)
		}
		for _, s := range list {
			b := raw(s)
			for at := range min(len(b), 100) {
				for v := 1; v < 256; v++ {
					other := bytes.Clone(b)
					other[at] ^= byte(v)
					switch read, e := agrees(t, m, other); e {
					case api.OK:
						kept++
						if kept%5 == 0 {
							runs(t, m, drawnScript(r), read, 9)
						}
					case api.ErrState:
						forged++
					}
				}
			}
		}
	}
	if kept < 1000 || forged < 1000 {
		t.Errorf("the turning is too thin: %d accepted, %d of states that may not be", kept, forged)
	}
}

// TestTurnedPage: a byte of a page turned is a byte of another state, which is accepted; unless the page is one of noughts then.
func TestTurnedPage(t *testing.T) {
	m := five(t)
	s := turned(begun(), func(s *api.State) { s.Pages[0][9] = 7 })
	b := raw(s)
	for at := range size {
		other := bytes.Clone(b)
		other[14+at] ^= 7
		if at == 9 {
			refused(t, m, other, api.ErrLoose, 14, "a page whose only byte is turned to 0")
			continue
		}
		both(t, m, turned(s, func(s *api.State) { s.Pages[0][at] = 7 }))
		if read, e := agrees(t, m, other); e != api.OK || read.Pages[0][at] != 7 {
			t.Fatalf("P23.1: the byte %d turned: %d", at, e)
		}
	}
}

// TestMangled: bytes of drawn states, mangled.
func TestMangled(t *testing.T) {
	r := rand.New(rand.NewSource(235))
	seen := map[api.Errno]int{}
	for _, m := range programs(t) {
		for range 60 {
			b := raw(drawnState(r, m))
			for range 12 {
				read, e := agrees(t, m, mangled(r, b))
				seen[e]++
				if e == api.OK {
					runs(t, m, drawnScript(r), read, int64(r.Intn(30)))
				}
			}
		}
	}
	for _, e := range []api.Errno{api.OK, api.ErrState, api.ErrEnd, api.ErrLoose, api.ErrRange, api.ErrMany, api.ErrRest} {
		if seen[e] < 20 {
			t.Errorf("the drawing is too thin: %d times %d", seen[e], e)
		}
	}
}

// TestReached: every state of a run is written and read as itself, and from what is read either engine comes to the end of the whole run.
func TestReached(t *testing.T) {
	script := []api.Reply{{Results: []uint64{5}}, {Results: []uint64{6}}, {Results: []uint64{1 << 40, 2}}, {Results: []uint64{8}}}
	for _, m := range programs(t) {
		m.Exports = []api.Export{{Name: "f", Function: len(m.Functions) - 1}}
		params := m.Types[m.Functions[len(m.Functions)-1].Type].Params
		s, e := instance.Begin(m, "f", []uint64{3, 2}[:len(params)])
		const fuel = 150
		want, _ := slow.Run(m, script, s, fuel)
		for left := int64(fuel); e == api.OK; left-- {
			both(t, m, s)
			b, _ := resume.Write(m, s)
			read, _, _ := resume.Read(m, b)
			if left == 0 || s.End != suspended {
				break
			}
			for _, run := range []func(api.Module, []api.Reply, api.State, int64) (api.State, api.Errno){slow.Run, fast.Run} {
				if got, e := run(m, script, read, left); e != api.OK || !identical(got, want) {
					t.Fatalf("W3: from %s: %d, %s, not %s", told(read), e, told(got), told(want))
				}
			}
			s, e = []func(api.Module, []api.Reply, api.State, int64) (api.State, api.Errno){slow.Run, fast.Run}[left%2](m, script, read, 1)
		}
		if e != api.OK || !identical(s, want) {
			t.Fatalf("W3: %d, %s, not %s", e, told(s), told(want))
		}
	}
}

// TestForgedRuns: snapshots that nobody has written, at the ends of what may be: frames full, fuel and replies at their bounds.
func TestForgedRuns(t *testing.T) {
	m := rich(t)
	for _, change := range []func(s *api.State){
		func(s *api.State) { s.Used, s.Replies = mostUsed, mostReplies },
		func(s *api.State) { s.Used = mostUsed - 3 },
		func(s *api.State) { s.Frames = tower(most64) },
		func(s *api.State) { s.Frames = tower(most64 - 1) },
		func(s *api.State) { s.Frames = tower(1) },
		func(s *api.State) { s.Replies = 5 },
		func(s *api.State) {
			s.Frames = []api.Frame{{Function: 0, Pc: 9, Locals: make([]uint64, 5), Stack: []uint64{1, 2, 3}}}
			s.Replies = mostReplies
		},
	} {
		s := turned(deep(), change)
		read, e := agrees(t, m, raw(s))
		if e != api.OK {
			t.Fatalf("P23.1: Read of %s: %d", told(s), e)
		}
		runs(t, m, []api.Reply{{Results: []uint64{1}}, {Results: []uint64{2}}, {Results: []uint64{3}}}, read, 0, 1, 2, 3, 4, 5, 10, 1000)
	}
}

// TestGreatest: the greatest state that may be, of some module, is written, read, and goes on.
func TestGreatest(t *testing.T) {
	const mostStack = 256
	m := api.Module{Types: []api.Sig{{}}, First: most64, Most: most64}
	m.Globals = slices.Repeat([]api.Global{{Letter: 'l', Mutable: true}}, most64)
	code := append(slices.Repeat([]api.Ins{{Op: 0x19, A: -1}}, mostStack), api.Ins{Op: 0x0b})
	code = append(append(code, slices.Repeat([]api.Ins{{Op: 0x10}}, mostStack)...), api.Ins{Op: 0x06})
	m.Functions = []api.Function{{Locals: string(bytes.Repeat([]byte("l"), most64)), Code: code}}
	top := func(n int) []uint64 { return slices.Repeat([]uint64{wide}, n) }
	s := api.State{End: suspended, Used: mostUsed, Replies: mostReplies, Globals: top(most64)}
	for range most64 {
		s.Pages = append(s.Pages, bytes.Repeat([]byte{255}, size))
		s.Frames = append(s.Frames, api.Frame{Pc: mostStack, Locals: top(most64), Stack: top(mostStack)})
	}
	both(t, m, s)
	read, _ := agrees(t, m, raw(s))
	runs(t, m, nil, read, 0, 1, 2)
	refused(t, m, append(raw(s), 0), api.ErrRest, len(raw(s)), "the greatest state and a byte")
	s.Frames[63].Stack[255]--
	both(t, m, s)
	s.Frames[63].Pc--
	refused(t, m, raw(s), api.ErrState, 9+63, "the greatest state with the last pc one less")
}

package session_test

import (
	"bytes"
	"fmt"
	"math"
	"math/rand"
	"slices"
	"testing"

	"flagon/api"
	"flagon/session"
)

// told: what a session tells of itself.
type told struct {
	source string
	bytes  []byte
	saved  []byte
	state  api.State
	errs   [4]api.Errno
}

func tells(s *session.Session) told {
	var x told
	x.source, x.errs[0] = s.Source()
	x.bytes, x.errs[1] = s.Bytes()
	x.saved, x.errs[2] = s.Save()
	x.state, x.errs[3] = s.State()
	return x
}

func (x told) same(y told) bool {
	return x.source == y.source && bytes.Equal(x.bytes, y.bytes) && bytes.Equal(x.saved, y.saved) && identical(x.state, y.state) && x.errs == y.errs
}

// TestSplits: every run by two parts, on whichever engines, saved and restored between, or not, in the same session or in another one: the end is that of Run alone.
func TestSplits(t *testing.T) {
	t.Parallel()
	for _, x := range runs() {
		way := single(t, x, x.steps)
		last := way[len(way)-1]
		for first := range len(way) {
			for engines := range int8(4) {
				s := open(t, x)
				goes(t, s, engines%2, int64(first))
				if way[first].End == suspended {
					goes(t, s, engines/2, int64(x.steps-first))
				}
				if got := state(t, s); !identical(got, last) {
					t.Fatalf("W2: by %d: %s, not %s", first, show(got), show(last))
				}
				s = open(t, x)
				goes(t, s, engines%2, int64(first))
				saved := saves(t, s)
				if way[first].End == suspended {
					goes(t, s, engines%2, int64(first%3))
					restores(t, s, saved)
					goes(t, s, engines/2, int64(x.steps-first))
				}
				restores(t, s, saves(t, s))
				if got := state(t, s); !identical(got, last) {
					t.Fatalf("W3: by %d: %s, not %s", first, show(got), show(last))
				}
			}
		}
	}
}

// act does one thing that is drawn to a pair.
func (p *pair) act(t *testing.T, r *rand.Rand, x small, saved [][]byte) {
	t.Helper()
	switch r.Intn(14) {
	case 0:
		p.load(t, octets(t, named(x.m)))
	case 1:
		p.load(t, [][]byte{nil, []byte("FLGN\x01"), octets(t, unfits(1, "end"))}[r.Intn(3)])
	case 2:
		p.text(t, []string{"", "flagon\nmemory 1 0\n", "flagon\ntype - -> w\nmemory 0 0\nfunc 0 -\n  end\n"}[r.Intn(3)])
	case 3:
		p.text(t, []string{fives, asking, sixth}[r.Intn(3)])
	case 4, 5:
		p.reply(t, [][]api.Reply{nil, x.script, values(1, 2, 3), {{}, {Trap: true}}}[r.Intn(4)])
	case 6, 7:
		args := []uint64{uint64(r.Intn(9)), 1 << 40, 2}[:r.Intn(4)]
		p.begin(t, []string{"f0", "f1", "f2", "main", "ask", ""}[r.Intn(6)], args)
	case 8, 9:
		p.restore(t, saved[r.Intn(len(saved))])
	case 10:
		p.run(t, int8(r.Intn(4)-1), int64(r.Intn(6)-3))
	default:
		p.run(t, int8(r.Intn(2)), int64(r.Intn(30)))
	}
}

// TestDrawn: drawn things done to sessions: each answers what it is meant to, and has what it is meant to, all along.
func TestDrawn(t *testing.T) {
	t.Parallel()
	r := rand.New(rand.NewSource(296))
	list := runs()
	for range 60 {
		m := drawnModule(r)
		list = append(list, small{m, drawnScript(r, m), drawnBeginning(r, m), 12})
	}
	for _, x := range list {
		saved := [][]byte{nil, raw(x.s), raw(api.State{End: halted}), raw(begun(of(">w", "", "w.const:5 end")))}
		for _, s := range single(t, x, min(x.steps, 12)) {
			saved = append(saved, raw(s))
		}
		p := paired(t)
		p.set(t, small{named(x.m), x.script, x.s, x.steps})
		for range 60 {
			p.act(t, r, x, saved)
		}
	}
}

// TestAnyOrder: Save, Restore, of this session or of another one, and Run in any order: where a session stands it stands on the way of Run alone.
func TestAnyOrder(t *testing.T) {
	t.Parallel()
	r := rand.New(rand.NewSource(297))
	list := runs()
	for round := range 150 {
		m := drawnModule(r)
		x := small{m, drawnScript(r, m), drawnBeginning(r, m), 60}
		if round%2 == 1 {
			x.s = drawnState(r, m)
		}
		list = append(list, x)
	}
	for _, x := range list {
		way := single(t, x, x.steps)
		both := []*session.Session{open(t, x), open(t, x)}
		at := []int{0, 0}
		kept, keptAt := saves(t, both[0]), 0
		for range 30 {
			n := r.Intn(2)
			switch left := len(way) - 1 - at[n]; {
			case r.Intn(3) == 0:
				kept, keptAt = saves(t, both[n]), at[n]
			case left == 0 || r.Intn(4) == 0:
				restores(t, both[n], kept)
				at[n] = keptAt
			default:
				fuel := r.Intn(left + 1)
				goes(t, both[n], int8(r.Intn(2)), int64(fuel))
				at[n] += fuel
			}
			for n := range both {
				if got := state(t, both[n]); !identical(got, way[at[n]]) {
					t.Fatalf("W2: %s, at %d: %s, not %s", code(x.m, 0), at[n], show(got), show(way[at[n]]))
				}
			}
		}
	}
}

// TestLong: runs of many steps, cut and saved here and there.
func TestLong(t *testing.T) {
	r := rand.New(rand.NewSource(298))
	s := fresh(t)
	loads(t, s, octets(t, named(counting())))
	begins(t, s, "f0", 0)
	used := int64(0)
	for range 40 {
		fuel := r.Int63n(20000)
		c := goes(t, s, int8(r.Intn(2)), fuel)
		used += fuel
		if c.Executed != fuel {
			t.Fatalf("P29.5: %v of %d", c, fuel)
		}
		stands(t, s, fmt.Sprint("suspended used ", used, " ", round(used)))
		if r.Intn(2) == 0 {
			restores(t, s, saves(t, s))
		}
	}
}

// TestLate: near the most that can be used: Used stops there, and what is executed is counted all the same.
func TestLate(t *testing.T) {
	for _, below := range []int64{0, 1, 7, 12} {
		for engine := range int8(2) {
			x := late(small{counting(), nil, begun(counting(), 0), 99}, below)
			p := paired(t)
			p.set(t, x)
			for _, fuel := range []int64{5, 6, 7} {
				p.run(t, engine, fuel)
				p.restore(t, saves(t, p.session))
			}
			stands(t, p.session, fmt.Sprint("suspended used ", mostUsed, " ", round(18)))
		}
	}
}

// TestGreatest: a session whose state is the greatest that may be, of some module.
func TestGreatest(t *testing.T) {
	const mostStack = 256
	var m api.Module
	m.First, m.Most = most64, most64
	m.Globals = slices.Repeat([]api.Global{{Letter: 'l', Mutable: true}}, most64)
	put(&m, ">", string(slices.Repeat([]byte("l"), most64)), "l.const:-1*256 call:0 drop*256 end")
	top := func(n int) []uint64 { return slices.Repeat([]uint64{math.MaxUint64}, n) }
	s := api.State{End: suspended, Used: mostUsed - 300, Replies: math.MaxInt64, Globals: top(most64)}
	for range most64 {
		s.Pages = append(s.Pages, slices.Repeat([]byte{255}, size))
		s.Frames = append(s.Frames, api.Frame{Pc: mostStack, Locals: top(most64), Stack: top(mostStack)})
	}
	s.Frames[most64-1].Pc++ // behind its call, or else it traps
	p := paired(t)
	p.set(t, small{m, nil, s, 520})
	for n := range int8(4) {
		p.run(t, n%2, 130)
		p.restore(t, saves(t, p.session))
	}
}

// TestTwoSessions: two sessions know nothing of each other, those with the same module neither.
func TestTwoSessions(t *testing.T) {
	t.Parallel()
	r := rand.New(rand.NewSource(299))
	for _, x := range runs() {
		saved := [][]byte{nil, raw(x.s)}
		list := []*pair{paired(t), paired(t), paired(t)}
		list[0].set(t, x)
		list[1].set(t, x)
		for range 40 {
			list[r.Intn(3)].act(t, r, x, saved)
			for _, p := range list {
				p.agrees(t)
			}
		}
	}
}

// TestAgain: what a session answers hangs on what was done to it, on nothing else.
func TestAgain(t *testing.T) {
	for seed := range int64(20) {
		trip := func() []told {
			r := rand.New(rand.NewSource(seed))
			m := drawnModule(r)
			x := small{named(m), drawnScript(r, m), drawnBeginning(r, m), 9}
			p := paired(t)
			p.set(t, x)
			list := []told{tells(p.session)}
			for range 20 {
				p.act(t, r, x, [][]byte{raw(x.s)})
				list = append(list, tells(p.session))
			}
			return list
		}
		if !slices.EqualFunc(trip(), trip(), told.same) {
			t.Fatal("R6: other answers")
		}
	}
}

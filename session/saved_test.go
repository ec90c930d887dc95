package session_test

import (
	"bytes"
	"math/rand"
	"slices"
	"strings"
	"testing"

	"flagon/api"
)

// TestSaved: what is saved of a run, byte by byte; it is a state to which one may come back, as often as one likes.
func TestSaved(t *testing.T) {
	s := fresh(t)
	texts(t, s, strings.ReplaceAll(fives, "memory 1 2", "memory 0 0"))
	begins(t, s, "main")
	var list [][]byte
	for _, want := range []string{
		"FSNP\x01\x01\x00\x00\x00\x00\x00\x00\x00\x01\x00\x00\x00\x00",
		"FSNP\x01\x01\x00\x01\x00\x00\x00\x00\x00\x01\x00\x01\x00\x01\x05",
		"FSNP\x01\x02\x00\x02\x00\x01\x05\x00\x00\x00\x00",
	} {
		got := saves(t, s)
		if string(got) != want {
			t.Errorf("P29.6: % x, not % x", got, want)
		}
		list = append(list, got)
		s.Run(bySlow, 1)
	}
	for _, at := range []int{0, 2, 1, 1, 0, 2, 0} {
		restores(t, s, list[at])
		stands(t, s, []string{"suspended used 0 frame 0 at 0 locals stack", "suspended used 1 frame 0 at 1 locals stack 5", "halted used 2 results 5"}[at])
	}
}

// restored: does Restore answer that error and place, and does what the session has stay?
func restored(t *testing.T, p *pair, b []byte, e api.Errno, at int) {
	t.Helper()
	if got, place := p.session.Restore(b); got != e || place != at {
		t.Errorf("P29.6: Restore(% x): %d at %d, not %d at %d", b[:min(len(b), 40)], got, place, e, at)
	}
	p.agrees(t)
}

// TestForged: of bytes that are no state of the module the error and its place; the state stays, or there is none still.
func TestForged(t *testing.T) {
	p := paired(t)
	m := named(of(">w", "", "w.const:5 end"))
	p.load(t, octets(t, m))
	const good = "FSNP\x01\x01\x00\x01\x00\x00\x00\x00\x00\x01\x00\x01\x00\x01\x05"
	with := func(at int, b byte) string { return good[:at] + string([]byte{b}) + good[at+1:] }
	for round := range 4 {
		for _, x := range []struct {
			b  string
			e  api.Errno
			at int
		}{
			{"", api.ErrMagic, 0},
			{"\x00", api.ErrMagic, 0},
			{"FLGN\x01", api.ErrMagic, 0},
			{good[:5], api.ErrEnd, 5},
			{good[:18], api.ErrEnd, 18},
			{good + "\x00", api.ErrRest, 19},
			{with(5, 0), api.ErrRange, 5},
			{with(5, 4), api.ErrRange, 5},
			{with(6, 7), api.ErrRange, 6},
			{good[:17] + "\x81\x00\x05", api.ErrLoose, 17},
			{with(9, 9), api.ErrMany, 9},
			{with(14, 128), api.ErrRange, 14},
			{with(5, 2), api.ErrState, 2},
			{with(6, 1), api.ErrState, 4},
			{good[:9] + "\x01\x05" + good[10:], api.ErrState, 3},
			{good[:10] + "\x01\x05" + good[11:], api.ErrState, 7},
			{good[:11] + "\x01\x00" + good[13:], api.ErrState, 8},
			{with(14, 1), api.ErrState, 9},
			{with(15, 0), api.ErrState, 9},
			{with(15, 2), api.ErrState, 9},
			{good[:16] + "\x01\x00" + good[17:], api.ErrState, 9},
			{good[:17] + "\x00", api.ErrState, 9},
			{good[:18] + "\x80\x80\x80\x80\x10", api.ErrState, 9},
			{good[:13] + "\x02\x00\x01\x00\x00\x00\x01\x00\x01\x05", api.ErrState, 9},
			{strings.Repeat("\x00", 1<<19+1), api.ErrLong, 0},
		} {
			restored(t, p, []byte(x.b), x.e, x.at)
		}
		switch round {
		case 0:
			p.begin(t, "f0", nil)
		case 1:
			p.run(t, byFast, 1)
		case 2:
			p.run(t, bySlow, 9)
		default:
			p.restore(t, []byte(good))
			p.run(t, byFast, 9)
		}
	}
}

// TestRestoreFirst: a session with a module, but without a state, takes what is restored; so does one whose run stands anywhere.
func TestRestoreFirst(t *testing.T) {
	for _, x := range runs() {
		way := single(t, x, x.steps)
		p := paired(t)
		p.load(t, octets(t, x.m))
		none(t, p.session)
		p.reply(t, x.script)
		for _, at := range []int{len(way) / 2, 0, len(way) - 1, 1} {
			if e := p.restore(t, raw(way[at])); e != api.OK {
				t.Fatalf("P29.6: %d", e)
			}
			if got := state(t, p.session); !identical(got, way[at]) {
				t.Fatalf("P29.6: %s, not %s", show(got), show(way[at]))
			}
			p.run(t, int8(at%2), 3)
		}
	}
}

// TestEnds: states of each end, of all traps and with as many results as may be, restored and saved.
func TestEnds(t *testing.T) {
	p := paired(t)
	p.set(t, small{m: rich(), s: deep()})
	for _, s := range []api.State{deep(), ended(halted), ended(trapped), {}} {
		s.Globals = deep().Globals
		for trap := int8(0); trap <= trapHost; trap++ {
			for _, results := range []int{0, 1, 8} {
				s := cloned(s)
				if s.End == trapped {
					s.Trap = trap
				} else if s.End == halted {
					s.Results = make([]uint64, results)
				}
				e := p.restore(t, raw(s))
				if want := s.End != 0 && (s.End != trapped || trap >= trapOp); (e == api.OK) != want {
					t.Errorf("P29.6: %d of %s", e, show(s))
				}
			}
		}
	}
}

// TestAnotherSession: what one session saved another one with the same module takes, and goes on as the first one does, whichever way it came by its module.
func TestAnotherSession(t *testing.T) {
	for _, x := range runs() {
		one, way := open(t, x), single(t, x, x.steps)
		source, _ := one.Source()
		for at := range way {
			saved := saves(t, one)
			other := fresh(t)
			texts(t, other, source)
			scripts(t, other, x.script...)
			restores(t, other, saved)
			if got := state(t, other); !identical(got, way[at]) {
				t.Fatalf("P29.6: %s, not %s", show(got), show(way[at]))
			}
			if at+1 < len(way) {
				goes(t, other, byFast, int64(len(way)-1-at))
				goes(t, one, bySlow, 1)
			}
			if got := state(t, other); !identical(got, way[len(way)-1]) {
				t.Fatalf("P29.6: %s, not %s", show(got), show(way[len(way)-1]))
			}
		}
	}
}

// TestAnotherModule: what a session with another module saved is asked of this one's.
func TestAnotherModule(t *testing.T) {
	var saved [][]byte
	for _, x := range runs() {
		for _, s := range single(t, x, x.steps) {
			saved = append(saved, raw(s))
		}
	}
	errs := map[api.Errno]int{}
	r := rand.New(rand.NewSource(294))
	for _, x := range runs() {
		p := paired(t)
		p.set(t, x)
		for range 60 {
			errs[p.restore(t, saved[r.Intn(len(saved))])]++
		}
	}
	if errs[api.OK] < 50 || errs[api.ErrState] < 50 {
		t.Errorf("the errors are %v", errs)
	}
}

// TestTurnedSaved: of what was saved each beginning, each byte turned, more behind it: it is refused as resume.Read does, or is a state that is saved as just those bytes.
func TestTurnedSaved(t *testing.T) {
	r := rand.New(rand.NewSource(295))
	fact := of("l>l", "", "get:0 l.eqz if:>l l.const:1 else get:0 get:0 l.const:1 l.sub call:0 l.mul end end")
	loop := of("w>w", "", "loop:> get:0 w.const:1 w.sub tee:0 brif:0 end w.const:7 end")
	accepted, errs := 0, map[api.Errno]int{}
	for _, x := range []small{{fact, nil, begun(fact, 5), 30}, {loop, nil, begun(loop, 300), 12}} {
		p := paired(t)
		p.set(t, x)
		for n := range 12 {
			p.run(t, int8(n%2), 2)
			b := saves(t, p.session)
			for at := range b {
				errs[p.restore(t, b[:at])]++
				for _, turned := range []byte{b[at] + 1, b[at] - 1, b[at] ^ 128, byte(r.Intn(256))} {
					other := bytes.Clone(b)
					other[at] = turned
					e := p.restore(t, other)
					errs[e]++
					if e != api.OK {
						continue
					}
					accepted++
					if got := saves(t, p.session); !bytes.Equal(got, other) {
						t.Fatalf("W3: % x is saved as % x", other, got)
					}
					p.run(t, byFast, 50)
					p.restore(t, b)
				}
			}
			p.restore(t, slices.Concat(b, b))
			p.restore(t, b)
		}
	}
	if accepted < 100 || len(errs) < 6 {
		t.Errorf("%d accepted, the errors are %v", accepted, errs)
	}
}

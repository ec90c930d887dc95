package resume_test

import (
	"bytes"
	"encoding/hex"
	"slices"
	"testing"

	"flagon/api"
	"flagon/resume"
	"flagon/snap"
)

// TestExamples: the chapter's.
func TestExamples(t *testing.T) {
	m := five(t)
	both(t, m, begun())
	both(t, m, turned(begun(), func(s *api.State) { s.Frames[0].Pc, s.Frames[0].Stack = 1, []uint64{5} }))
	for _, s := range ends() {
		both(t, rich(t), s)
	}
	out := turned(begun(), func(s *api.State) { s.Frames[0].Pc = 2 })
	b, e := snap.Write(out)
	if e != api.OK {
		t.Fatalf("snap.Write: %d", e)
	}
	untold(t, m, out, api.ErrState, "a pc out of its function")
	refused(t, m, b, api.ErrState, 9, "a pc out of its function")
}

// TestWholeExample: what the document's eighth example of the whole saves and restores.
func TestWholeExample(t *testing.T) {
	m := parsed(t, "flagon\ntype - -> w\nmemory 0 0\nfunc 0 -\n  w.const 5\n  end\nexport main 0\n")
	s := api.State{End: suspended, Used: 1, Frames: []api.Frame{{Pc: 1, Stack: []uint64{5}}}}
	if b, e := resume.Write(m, s); hex.EncodeToString(b) != "46534e50010100010000000000010001000105" || e != api.OK {
		t.Errorf("P23.2: %x, %d", b, e)
	}
	both(t, m, s)
	refused(t, m, []byte{0}, api.ErrMagic, 0, "00")
}

// small: five ahead of its end, with one page of noughts. Each thing but the head takes one byte, so that a place in it is the thing's number.
//
//	5 End, 6 Trap, 7 Used, 8 Replies, 9 Results, 10 Globals, 11 Pages, 12 full ones, 13 Frames, 14 Function, 15 Pc, 16 Locals, 17 Stack, 18 its value
func small() []byte {
	return []byte(head + "\x01\x00\x00\x00\x00\x00\x01\x00\x01\x00\x01\x00\x01\x05")
}

// with: small, with other bytes in the stead of the one at that place.
func with(at int, b ...byte) []byte {
	return slices.Concat(small()[:at], b, small()[at+1:])
}

// paged: small with so many pages, and what is said of the full ones.
func paged(count, full byte, parts ...string) []byte {
	b := append(small()[:11], count, full)
	for _, p := range parts {
		b = append(b, p...)
	}
	return append(b, small()[13:]...)
}

// TestSmall: the bytes of which the next tests are made are read.
func TestSmall(t *testing.T) {
	s, e := agrees(t, five(t), small())
	if want := turned(begun(), func(s *api.State) { s.Frames[0].Pc, s.Frames[0].Stack = 1, []uint64{5} }); e != api.OK || !identical(s, want) {
		t.Errorf("P23.1: %d, %s", e, told(s))
	}
	page := string(append(make([]byte, size-1), 7))
	for _, b := range [][]byte{paged(1, 1, "\x00"+page), paged(2, 1, "\x01"+page), paged(2, 2, "\x00"+page+"\x01"+page), paged(2, 0)} {
		if _, e := agrees(t, five(t), b); e != api.OK {
			t.Errorf("P23.1: Read of %.40x: %d", b, e)
		}
	}
}

// TestForm: each error of snap.Read, with its place.
func TestForm(t *testing.T) {
	m := five(t)
	refused(t, m, nil, api.ErrMagic, 0, "nothing")
	refused(t, m, []byte("FSNP"), api.ErrMagic, 0, "FSNP")
	refused(t, m, with(4, 2), api.ErrMagic, 0, "FSNP and 02")
	refused(t, m, with(0, 'f'), api.ErrMagic, 0, "fSNP")
	refused(t, m, append(small(), make([]byte, mostLong)...), api.ErrLong, 0, "too many bytes")
	refused(t, m, make([]byte, mostLong+1), api.ErrLong, 0, "too many noughts")
	refused(t, m, append(small(), make([]byte, mostLong-19)...), api.ErrRest, 19, "as many bytes as may be")
	refused(t, m, append(small(), 0), api.ErrRest, 19, "a byte too many")
	for n := 5; n < len(small()); n++ {
		refused(t, m, small()[:n], api.ErrEnd, n, "the first %d bytes", n)
	}
	for at := 7; at < len(small()); at++ {
		refused(t, m, with(at, 0x80, 0), api.ErrLoose, at, "80 00 at %d", at)
		refused(t, m, with(at, bytes.Repeat([]byte{255}, 10)...), api.ErrWide, at, "ten ff at %d", at)
	}
	for _, x := range []struct {
		at int
		v  uint64
		e  api.Errno
	}{
		{7, mostUsed + 1, api.ErrRange}, {7, wide, api.ErrRange}, {8, mostReplies + 1, api.ErrRange}, {8, wide, api.ErrRange},
		{9, 9, api.ErrMany}, {10, 65, api.ErrMany}, {11, 65, api.ErrMany}, {12, 2, api.ErrMany}, {13, 65, api.ErrMany},
		{14, 128, api.ErrRange}, {15, 2048, api.ErrRange}, {16, 65, api.ErrMany}, {17, 257, api.ErrMany},
	} {
		refused(t, m, with(x.at, uvar(x.v)...), x.e, x.at, "%d at %d", x.v, x.at)
	}
	for _, v := range []byte{0, 4, 127, 128, 255} {
		refused(t, m, with(5, v), api.ErrRange, 5, "End %d", v)
	}
	for _, v := range []byte{7, 8, 127, 128, 255} {
		refused(t, m, with(6, v), api.ErrRange, 6, "Trap %d", v)
	}
}

// TestFormOfPages: those errors of snap.Read that are about pages.
func TestFormOfPages(t *testing.T) {
	m := five(t)
	page, noughts := string(append(make([]byte, size-1), 7)), string(make([]byte, size))
	refused(t, m, paged(1, 1, "\x01"+page), api.ErrRange, 13, "page 1 of 1")
	refused(t, m, paged(2, 2, "\x00"+page+"\x02"+page), api.ErrRange, 14+size, "page 2 of 2")
	refused(t, m, paged(2, 2, "\x00"+page+"\x00"+page), api.ErrOrder, 14+size, "page 0 twice")
	refused(t, m, paged(2, 2, "\x01"+page+"\x00"+page), api.ErrOrder, 14+size, "page 0 behind page 1")
	refused(t, m, paged(1, 1, "\x00"+noughts), api.ErrLoose, 14, "a page of noughts")
	refused(t, m, paged(2, 2, "\x00"+page+"\x01"+noughts), api.ErrLoose, 15+size, "a second page of noughts")
	refused(t, m, paged(1, 1, "\x00"+page)[:14+size-1], api.ErrEnd, 14, "a page that is cut off")
	refused(t, m, paged(1, 1, "\x00"+page)[:14], api.ErrEnd, 14, "a page without bytes")
}

// TestFormFirst: an error of snap.Read is told ahead of ErrState, though what may not be stands ahead of it in the bytes.
func TestFormFirst(t *testing.T) {
	m := five(t)
	for _, at := range []int{5, 6, 9, 10, 11, 14, 15} {
		b := with(at, small()[at]+1)
		if at == 9 || at == 10 {
			b = with(at, 1, 0)
		}
		refused(t, m, append(slices.Clone(b), 0), api.ErrRest, len(b), "a byte too many behind a thing at %d that may not be", at)
		refused(t, m, b[:len(b)-1], api.ErrEnd, len(b)-1, "a byte too few behind a thing at %d that may not be", at)
		refused(t, m, slices.Concat(b[:len(b)-1], []byte{0x85, 0}), api.ErrLoose, len(b)-1, "a loose number behind a thing at %d that may not be", at)
	}
}

// TestForged: bytes of the right form that tell no state of the module, and where the bounds are.
func TestForged(t *testing.T) {
	m := five(t)
	for _, x := range []struct {
		name  string
		b     []byte
		place int
	}{
		{"halted, with a frame", with(5, 2), 2},
		{"trapped, with a frame", slices.Concat([]byte(head), []byte{3, 1}, small()[7:]), 2},
		{"trapped, with a frame and without a trap", with(5, 3), 2},
		{"no frames", append(small()[:13], 0), 2},
		{"a result", with(9, 1, 5), 3},
		{"a trap", with(6, 1), 4},
		{"a global", with(10, 1, 0), 7},
		{"no page", with(11, 0), 8},
		{"three pages", with(11, 3), 8},
		{"64 pages", with(11, 64), 8},
		{"a function that is none", with(14, 1), 9},
		{"the function 127", with(14, 127), 9},
		{"pc 0", with(15, 0), 9},
		{"pc 2", with(15, 2), 9},
		{"pc 2047", with(15, uvar(2047)...), 9},
		{"a local", with(16, 1, 0), 9},
		{"an empty stack", append(small()[:17], 0), 9},
		{"two values", append(small()[:17], 2, 5, 5), 9},
		{"a value that is no w", with(18, uvar(high)...), 9},
		{"the greatest value", with(18, uvar(wide)...), 9},
		{"a frame behind it", append(with(13, 2), 0, 1, 0, 1, 5), 9},
		{"halted, with a trap, a global, no page and a frame of no function", append(small()[:5], 2, 1, 0, 0, 0, 1, 0, 0, 0, 1, 1, 0, 0, 0), 2},
	} {
		refused(t, m, x.b, api.ErrState, x.place, "%s", x.name)
	}
	for _, b := range [][]byte{with(18, uvar(high-1)...), with(18, 0), with(7, uvar(mostUsed)...), with(8, uvar(mostReplies)...), with(11, 2)} {
		if _, e := agrees(t, m, b); e != api.OK {
			t.Errorf("P23.1: Read of %x: %d", b, e)
		}
	}
}

// TestReadPlaces: of what may not be, but can be told, ErrState and frame.Check's place; of what cannot be told, snap.Read's error.
func TestReadPlaces(t *testing.T) {
	m := rich(t)
	var seen []int
	for _, x := range outs() {
		for _, s := range ends() {
			if !x.of(s) {
				continue
			}
			bad := turned(s, x.change)
			if slices.ContainsFunc(bad.Pages, func(p []byte) bool { return len(p) != size }) {
				continue // no bytes say so
			}
			if _, e := snap.Write(bad); e != api.OK {
				if _, e := agrees(t, m, raw(bad)); e == api.OK || e == api.ErrState {
					t.Fatalf("P23.1: Read of %s, whose form is wrong: %d", told(bad), e)
				}
				continue
			}
			refused(t, m, raw(bad), api.ErrState, x.place, "%s", told(bad))
			seen = append(seen, x.place)
		}
	}
	slices.Sort(seen)
	if got := slices.Compact(seen); !slices.Equal(got, []int{2, 3, 4, 7, 8, 9, 10, 11, 12, 13, 14}) {
		t.Errorf("the places %v alone are told", got)
	}
}

// TestEveryFrame: of a tower of frames the place of the one that does not fit, of each of them.
func TestEveryFrame(t *testing.T) {
	m := rich(t)
	s := turned(deep(), func(s *api.State) { s.Frames = tower(most64) })
	both(t, m, s)
	for at := range most64 {
		bad := turned(s, func(s *api.State) { s.Frames[at].Locals[1] = high })
		refused(t, m, raw(bad), api.ErrState, 9+at, "a local of frame %d", at)
		untold(t, m, bad, api.ErrState, "a local of frame %d", at)
	}
}

// TestFirstPlace: where several things may not be, the first place is told.
func TestFirstPlace(t *testing.T) {
	m := rich(t)
	for _, a := range outs() {
		for _, b := range outs() {
			if a.place >= b.place || !a.of(deep()) || !b.of(deep()) {
				continue
			}
			bad := turned(turned(deep(), b.change), a.change)
			if _, e := snap.Write(bad); e == api.OK {
				refused(t, m, raw(bad), api.ErrState, a.place, "%s", told(bad))
			}
			untold(t, m, bad, api.ErrState, "two things that may not be")
		}
	}
}

// TestOtherModule: bytes are a state of each module of which their state may be one, and of no other.
func TestOtherModule(t *testing.T) {
	round := parsed(t, "flagon\ntype - -> -\nmemory 1 1\nfunc 0 -\nloop 0\nbr 0\nend\nend\n")
	both(t, five(t), begun())
	both(t, round, begun())
	refused(t, rich(t), raw(begun()), api.ErrState, 7, "a state of five as one of rich")
	refused(t, five(t), raw(deep()), api.ErrState, 7, "a state of rich as one of five")
	refused(t, round, small(), api.ErrState, 9, "a state of five as one of round")
	two := turned(begun(), func(s *api.State) { s.Pages = blank(2) })
	both(t, five(t), two)
	refused(t, round, raw(two), api.ErrState, 8, "two pages as those of round")
}

// TestNothing: of a module of nothing no state is suspended, but others may be.
func TestNothing(t *testing.T) {
	var m api.Module
	both(t, m, api.State{End: halted})
	both(t, m, api.State{End: halted, Results: []uint64{wide, 0, 1, 2, 3, 4, 5, 6}, Used: mostUsed, Replies: mostReplies})
	both(t, m, api.State{End: trapped, Trap: 6})
	refused(t, m, raw(api.State{End: suspended}), api.ErrState, 2, "no frames")
	refused(t, m, raw(api.State{End: suspended, Frames: []api.Frame{{}}}), api.ErrState, 9, "a frame of no function")
	refused(t, m, raw(api.State{End: trapped}), api.ErrState, 4, "no trap")
	untold(t, m, api.State{}, api.ErrState, "End 0")
}

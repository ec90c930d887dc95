package snap_test

import (
	"bytes"
	"strings"
	"testing"

	"flagon/api"
	"flagon/snap"
)

// TestLong: 2^19 bytes are looked at, one more are not, whatever they are.
func TestLong(t *testing.T) {
	whole := raw(greatest())
	for _, x := range []struct {
		n     int
		b     []byte
		e     api.Errno
		place int
	}{
		{mostLong, whole, api.ErrRest, len(whole)},
		{mostLong + 1, whole, api.ErrLong, 0},
		{mostLong, nil, api.ErrMagic, 0},
		{mostLong + 1, nil, api.ErrLong, 0},
		{2 * mostLong, whole, api.ErrLong, 0},
		{mostLong, []byte(head + "\x01\x07"), api.ErrRange, 6},
		{mostLong + 1, []byte(head + "\x01\x07"), api.ErrLong, 0},
		{mostLong + 1, []byte(head), api.ErrLong, 0},
	} {
		b := make([]byte, x.n)
		copy(b, x.b)
		fails(t, b, x.e, x.place, "%d bytes, the first of them %.20x", x.n, x.b)
	}
}

// TestMagic: each of the five bytes, turned into each other one, and too few of them.
func TestMagic(t *testing.T) {
	whole := raw(rich())
	for at := range len(head) {
		for v := range 256 {
			b := bytes.Clone(whole)
			b[at] = byte(v)
			if v != int(head[at]) {
				fails(t, b, api.ErrMagic, 0, "the byte %d as %d", at, v)
			}
		}
		fails(t, []byte(head[:at]), api.ErrMagic, 0, "%d bytes", at)
	}
	fails(t, nil, api.ErrMagic, 0, "nothing")
	fails(t, []byte("fsnp\x01"), api.ErrMagic, 0, "small letters")
	fails(t, []byte("FLGN\x01"), api.ErrMagic, 0, "a module's first bytes")
	fails(t, append([]byte{0}, whole...), api.ErrMagic, 0, "a byte ahead")
	fails(t, []byte(head), api.ErrEnd, 5, "the five bytes alone")
}

// TestEveryBeginning: what was written, cut off anywhere: the place is where the piece begins that is cut.
func TestEveryBeginning(t *testing.T) {
	for _, s := range []api.State{rich(), {End: 1}, {End: 2, Results: some(8), Globals: some(64), Frames: []api.Frame{{Locals: some(64), Stack: some(256)}}}} {
		ps := pieces(s)
		whole := join(ps)
		for at, from := range starts(ps)[:len(ps)] {
			for n := range len(ps[at].b) {
				fails(t, whole[:from+n], api.ErrEnd, from, "%d bytes of %s", n, ps[at].name)
			}
		}
		for n := range len(head) {
			fails(t, whole[:n], api.ErrMagic, 0, "%d bytes", n)
		}
	}
}

// TestCutGreatest: the greatest state, cut off here and there.
func TestCutGreatest(t *testing.T) {
	ps := pieces(greatest())
	whole := join(ps)
	for at, from := range starts(ps)[:len(ps)] {
		if at%97 == 0 || at > len(ps)-5 || len(ps[at].b) == size {
			fails(t, whole[:from], api.ErrEnd, from, "all ahead of %s", ps[at].name)
			fails(t, whole[:from+len(ps[at].b)-1], api.ErrEnd, from, "%s without its last byte", ps[at].name)
		}
	}
}

// TestRest: something behind what was written, whatever it is.
func TestRest(t *testing.T) {
	for _, s := range append(plain()[:20], rich(), greatest()) {
		b := raw(s)
		for _, rest := range []string{"\x00", "\x01", "\xff", "\x80\x00", head, string(blank()), string(b)} {
			if long := append(bytes.Clone(b), rest...); len(long) <= mostLong {
				fails(t, long, api.ErrRest, len(b), "a state and %.20x", rest)
			}
		}
	}
}

// loose: numbers that wire refuses, and the error.
func loose(v uint64) map[string]api.Errno {
	longer := uvar(v)
	longer[len(longer)-1] |= 0x80
	out := map[string]api.Errno{
		strings.Repeat("\x80", 9) + "\x00": api.ErrLoose,
		strings.Repeat("\xff", 9) + "\x02": api.ErrWide,
		strings.Repeat("\xff", 9) + "\x7f": api.ErrWide,
		strings.Repeat("\x80", 9) + "\x80": api.ErrWide,
		strings.Repeat("\xff", 10):         api.ErrWide,
		"\x80\x00":                         api.ErrLoose,
		"\x81\x00":                         api.ErrLoose,
		"\x81\x80\x00":                     api.ErrLoose,
	}
	if len(longer) < 10 {
		out[string(longer)+"\x00"] = api.ErrLoose
	}
	return out
}

// first is the number of the bytes of a piece.
func first(b []byte) uint64 {
	v, unit := uint64(0), uint64(1)
	for _, c := range b {
		v, unit = v+uint64(c%128)*unit, unit*128
	}
	return v
}

// TestWire: every number and every count as one that wire refuses, or that is cut off; no bound is asked of it.
func TestWire(t *testing.T) {
	ps := pieces(rich())
	for at, from := range starts(ps)[:len(ps)] {
		if ps[at].kind != number && ps[at].kind != count {
			continue
		}
		for b, e := range loose(first(ps[at].b)) {
			fails(t, join(with(ps, at, []byte(b))), e, from, "%s as %x", ps[at].name, b)
		}
		for n := 1; n < 10; n++ {
			cut := append(join(ps[:at]), bytes.Repeat([]byte{0xff}, n)...)
			fails(t, cut, api.ErrEnd, from, "%s as %d ff", ps[at].name, n)
		}
	}
}

// errorOf: what is answered of a piece that is greater than it may be.
func (p piece) errorOf() api.Errno {
	if p.kind == count {
		return api.ErrMany
	}
	return api.ErrRange
}

// TestBounds: every number and every count of the rich state one past its bound, and at other numbers past it; every number at its bound.
func TestBounds(t *testing.T) {
	ps := pieces(rich())
	for at, from := range starts(ps)[:len(ps)] {
		p := ps[at]
		if p.kind != number && p.kind != count || p.most == wide {
			continue
		}
		for _, v := range []uint64{p.most + 1, p.most + 2, 2*p.most + 1, 1 << 63, 1<<63 + 1, 1<<63 + p.most/2, wide - 1, wide} {
			if v > p.most {
				fails(t, join(with(ps, at, uvar(v))), p.errorOf(), from, "%s %d", p.name, v)
				fails(t, join(with(ps[:at+1], at, uvar(v))), p.errorOf(), from, "%s %d, and nothing behind it", p.name, v)
			}
		}
		if p.kind == count || p.name == "page 1" || p.name == "page 3" { // what stands behind would have to be another
			continue
		}
		for _, v := range []uint64{p.least, (p.least + p.most) / 2, p.most} {
			if !agrees(t, join(with(ps, at, uvar(v)))) {
				t.Errorf("P22.2: %s %d is refused", p.name, v)
			}
		}
	}
}

// TestReadOctets: End and Trap, every byte.
func TestReadOctets(t *testing.T) {
	ps := pieces(rich())
	for at, from := range starts(ps)[:2] {
		for v := range 256 {
			b := join(with(ps, at, []byte{byte(v)}))
			if uint64(v) < ps[at].least || uint64(v) > ps[at].most {
				fails(t, b, api.ErrRange, from, "%s %d", ps[at].name, v)
				fails(t, b[:from+1], api.ErrRange, from, "%s %d, and nothing behind it", ps[at].name, v)
				continue
			}
			if s, e, _ := snap.Read(b); e != api.OK || int(s.End) != int(b[5]) || int(s.Trap) != int(b[6]) {
				t.Errorf("P22.2: %s %d: %d, End %d, Trap %d", ps[at].name, v, e, s.End, s.Trap)
			}
		}
	}
}

// TestCounts: each count at its bound asks for so many; one that is too great is refused ahead of what is missing.
func TestCounts(t *testing.T) {
	for name, most := range map[string]uint64{"results": mostResults, "globals": most64, "pages": most64, "frames": most64, "frame 0 locals": most64, "frame 0 stack": mostStack} {
		ps := pieces(rich())
		at := find(t, ps, name)
		ahead := ps[:at+1]
		from := starts(ahead)
		for n := uint64(1); n <= most; n++ {
			b := join(with(ahead, at, uvar(n)))
			fails(t, b, api.ErrEnd, len(b), "%s %d, and nothing behind it", name, n)
		}
		for n := most + 1; n <= 4*most; n++ {
			fails(t, join(with(ahead, at, uvar(n))), api.ErrMany, from[at], "%s %d", name, n)
		}
	}
}

// pagesOf: bytes of a state with pages alone: how many there are, how many are written, and these.
func pagesOf(pages, full int, each ...string) []byte {
	b := []byte(head + "\x01\x00\x00\x00\x00\x00")
	b = append(append(b, uvar(uint64(pages))...), uvar(uint64(full))...)
	return append(b, strings.Join(each, "")...)
}

// numbered is a page that is written, one byte of it not 0.
func numbered(k uint64) string {
	return string(uvar(k)) + string(page(int(k)%size, 1))
}

// TestFullCount: at most as many pages are written as there are.
func TestFullCount(t *testing.T) {
	for pages := range most64 + 1 {
		for full := range most64 + 3 {
			b := pagesOf(pages, full)
			if full > pages {
				fails(t, b, api.ErrMany, 12, "%d pages, %d of them written", pages, full)
			} else {
				fails(t, b, api.ErrEnd, 13, "%d pages, %d of them written, and nothing behind it", pages, full)
			}
		}
	}
}

// TestPageNumbers: which page numbers may stand behind which, in each order of two and of three.
func TestPageNumbers(t *testing.T) {
	const step = 1 + size
	for a := range uint64(5) {
		for b := range uint64(5) {
			bytes := pagesOf(4, 2, numbered(a), numbered(b), "\x00")
			switch {
			case a >= 4:
				fails(t, bytes, api.ErrRange, 13, "pages %d %d of 4", a, b)
			case b >= 4:
				fails(t, bytes, api.ErrRange, 13+step, "pages %d %d of 4", a, b)
			case b <= a:
				fails(t, bytes, api.ErrOrder, 13+step, "pages %d %d of 4", a, b)
			default:
				if !agrees(t, bytes) {
					t.Errorf("P22.2: pages %d %d of 4 are refused", a, b)
				}
			}
			for c := range uint64(5) {
				third := pagesOf(4, 3, numbered(a), numbered(b), numbered(c), "\x00")
				if agrees(t, third) != (a < b && b < c && c < 4) {
					t.Errorf("P22.2: pages %d %d %d of 4", a, b, c)
				}
			}
		}
	}
	fails(t, pagesOf(64, 1, numbered(64), "\x00"), api.ErrRange, 13, "page 64 of 64")
	fails(t, pagesOf(64, 2, numbered(63), numbered(63), "\x00"), api.ErrOrder, 13+step, "page 63 twice")
	fails(t, pagesOf(2, 2, numbered(1), numbered(2), "\x00"), api.ErrRange, 13+step, "page 2 of 2, behind page 1")
	fails(t, pagesOf(2, 2, numbered(1), numbered(1<<32), "\x00"), api.ErrRange, 13+step, "page 2^32 of 2")
	fails(t, pagesOf(2, 1, numbered(1<<63), "\x00"), api.ErrRange, 13, "page 2^63 of 2")
}

// TestPageBytes: a page of noughts that is written, and one that is cut off; the noughts are told only where the page is whole.
func TestPageBytes(t *testing.T) {
	noughts := string(blank())
	fails(t, pagesOf(1, 1, "\x00", noughts, "\x00"), api.ErrLoose, 14, "a page of noughts")
	fails(t, pagesOf(1, 1, "\x00", noughts), api.ErrLoose, 14, "a page of noughts, and nothing behind it")
	fails(t, pagesOf(3, 3, numbered(0), "\x02", noughts, "\x00"), api.ErrLoose, 14+4097, "a page of noughts behind another one")
	for n := range size {
		fails(t, pagesOf(1, 1, "\x00", noughts[:n]), api.ErrEnd, 14, "%d noughts of a page", n)
		fails(t, pagesOf(1, 1, "\x00", "\x01", noughts[:max(n-1, 0)]), api.ErrEnd, 14, "a 1 and %d noughts of a page", n-1)
		if b := pagesOf(1, 1, "\x00", string(page(n, 128)), "\x00"); !agrees(t, b) {
			t.Fatalf("P22.2: a page whose one byte is at %d is refused", n)
		}
	}
}

// broken: the piece as one that is refused, and the error.
func (p piece) broken(way int) ([]byte, api.Errno) {
	switch {
	case p.kind == octet:
		return []byte{byte(p.most) + 1 + byte(way)}, api.ErrRange
	case p.kind == body:
		return blank(), api.ErrLoose
	case way == 0 || p.most == wide:
		return []byte{0x80, 0x00}, api.ErrLoose
	case way == 1:
		return bytes.Repeat([]byte{0xff}, 10), api.ErrWide
	}
	return uvar(p.most + 1), p.errorOf()
}

// TestFirstOfTwo: of two pieces that are refused, the one ahead is told.
func TestFirstOfTwo(t *testing.T) {
	ps := pieces(rich())
	from := starts(ps)
	for a := range ps {
		for b := a + 1; b < len(ps); b++ {
			way := (a + b) % 3
			ahead, e := ps[a].broken(way)
			behind, _ := ps[b].broken((way + a) % 3)
			fails(t, join(with(with(ps, a, ahead), b, behind)), e, from[a], "%s and %s, broken", ps[a].name, ps[b].name)
		}
		ahead, e := ps[a].broken(a % 3)
		fails(t, append(join(with(ps, a, ahead)), 0), e, from[a], "%s, broken, and a byte behind it all", ps[a].name)
	}
}

// TestOrders: two things that are asked of one number, the first of them told.
func TestOrders(t *testing.T) {
	fails(t, pagesOf(2, 2, numbered(1), "\x80\x00", "\x00"), api.ErrLoose, 13+4097, "a number that is none ahead of its order")
	fails(t, pagesOf(2, 3, numbered(5)), api.ErrMany, 12, "too many pages ahead of the first one's number")
	fails(t, pagesOf(1, 1, "\x01", string(blank())), api.ErrRange, 13, "a number that is too great ahead of a page of noughts")
	fails(t, pagesOf(2, 2, numbered(1), "\x00", string(blank())), api.ErrOrder, 13+4097, "an order ahead of a page of noughts")
	fails(t, pagesOf(0, 0, "\x01\x80\x01\x80\x10"), api.ErrRange, 14, "a function that is too great ahead of the pc")
	fails(t, pagesOf(0, 0, "\x01\x7f\x80\x10\x41"), api.ErrRange, 15, "a pc that is too great ahead of the locals")
	fails(t, pagesOf(0, 0, "\x41\x80\x01"), api.ErrMany, 13, "too many frames ahead of a function")
}

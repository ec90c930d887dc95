package module_test

import (
	"bytes"
	"math"
	"slices"
	"strings"
	"testing"

	"flagon/api"
	"flagon/module"
)

// samples is modules that may be.
func samples() []api.Module {
	return []api.Module{
		{}, example(), rich(),
		{Types: manySigs(64), Hosts: slices.Repeat([]int{63}, 32), First: 64, Most: 64, Data: []api.Data{{At: 200000, B: make([]byte, 200)}}},
		{Globals: []api.Global{{Letter: 'w', Value: 1 << 31}, {Letter: 'l', Mutable: true, Value: 1<<63 - 1}}, Most: 3},
		{Types: []api.Sig{{}}, Functions: slices.Repeat([]api.Function{{Locals: "wl"}}, 128), Exports: []api.Export{{Name: "~", Function: 127}}},
	}
}

func TestBeginning(t *testing.T) {
	refusesBytes(t, "nil", nil, api.ErrMagic, 0)
	refusesBytes(t, "no byte", []byte{}, api.ErrMagic, 0)
	whole := raw(rich())
	for at := range len(head) {
		refusesBytes(t, "a beginning of the five", whole[:at], api.ErrMagic, 0)
		for c := range 256 {
			b := slices.Clone(whole)
			if b[at] == byte(c) {
				continue
			}
			b[at] = byte(c)
			refusesBytes(t, "another byte of the five", b, api.ErrMagic, 0)
		}
	}
	refusesBytes(t, "without the first", whole[1:], api.ErrMagic, 0)
	refusesBytes(t, "the five bytes", []byte(head), api.ErrEnd, 5)
}

// TestEnds: bytes that end too early, at each place; what stands in the spare room is not read.
func TestEnds(t *testing.T) {
	for _, m := range samples() {
		ps := pieces(m)
		whole, begin := join(ps), len(head)
		for _, p := range ps {
			for end := begin; end < begin+len(p.b); end++ {
				refusesBytes(t, p.name, whole[:end], api.ErrEnd, begin)
				refusesBytes(t, p.name, slices.Clone(whole[:end]), api.ErrEnd, begin)
			}
			begin += len(p.b)
		}
	}
}

func TestRest(t *testing.T) {
	for _, m := range samples() {
		b := raw(m)
		for _, behind := range [][]byte{{0x00}, {0x80}, {0xff}, {0x00, 0x00}, b} {
			refusesBytes(t, "something behind", slices.Concat(b, behind), api.ErrRest, len(b))
		}
	}
}

// instead is the bytes with another form of one piece, and the place of that.
func instead(ps []piece, at int, b []byte) ([]byte, int) {
	other := slices.Clone(ps)
	other[at].b = b
	return join(other), placeOf(ps, ps[at].name)
}

// spread is the number that b begins with in more bytes than it needs, and what stands behind it.
func spread(b []byte, noughts int) []byte {
	end := slices.IndexFunc(b, func(c byte) bool { return c < 0x80 })
	out := append(slices.Clone(b[:end]), b[end]|0x80)
	for range noughts - 1 {
		out = append(out, 0x80)
	}
	return slices.Concat(out, []byte{0x00}, b[end+1:])
}

// TestForms: of each number, length, count and instruction the forms that wire refuses, at its place.
func TestForms(t *testing.T) {
	wide := append(bytes.Repeat([]byte{0xff}, 9), 0x02)
	for _, m := range samples() {
		ps := pieces(m)
		for i, p := range ps {
			var ahead []byte
			behind := p.b
			if p.kind == octet || p.kind == instruction && len(p.b) == 1 {
				continue
			}
			if p.kind == instruction {
				ahead, behind = p.b[:1], p.b[1:]
			}
			if slices.IndexFunc(behind, func(c byte) bool { return c < 0x80 }) < 8 {
				b, at := instead(ps, i, slices.Concat(ahead, spread(behind, 1)))
				refusesBytes(t, p.name, b, api.ErrLoose, at)
				b, at = instead(ps, i, slices.Concat(ahead, spread(behind, 2)))
				refusesBytes(t, p.name, b, api.ErrLoose, at)
			}
			b, at := instead(ps, i, slices.Concat(ahead, wide))
			refusesBytes(t, p.name, b, api.ErrWide, at)
			b, at = instead(ps, i, slices.Concat(ahead, bytes.Repeat([]byte{0x80}, 10)))
			refusesBytes(t, p.name, b, api.ErrWide, at)
		}
	}
}

// TestGreatNumbers: numbers that have no room in 63 bits are too great, not below 0.
func TestGreatNumbers(t *testing.T) {
	for _, m := range samples() {
		ps := pieces(m)
		for i, p := range ps {
			want := api.ErrIndex
			switch {
			case p.kind == count:
				want = api.ErrMany
			case p.kind == text:
				want = api.ErrLong
			case p.kind != number:
				continue
			case p.name == "first" || p.name == "most" || strings.HasPrefix(p.name, "data"):
				want = api.ErrRange
			}
			for _, v := range []uint64{1 << 20, 1 << 31, 1 << 32, 1<<63 - 1, 1 << 63, 1<<63 + 1, 1<<64 - 1<<32, math.MaxUint64} {
				b, at := instead(ps, i, uvar(v))
				refusesBytes(t, p.name, b, want, at)
				refusesBytes(t, p.name+", and the end", b[:at+len(uvar(v))], want, at)
			}
		}
	}
}

// TestLongAtTheEnd: that a text is too long is told by its length, whether or not its bytes follow.
func TestLongAtTheEnd(t *testing.T) {
	for _, x := range wrongs() {
		if x.e != api.ErrLong {
			continue
		}
		m := rich()
		x.change(&m)
		ps := pieces(m)
		at := placeOf(ps, x.piece)
		length := 1
		for join(ps)[at+length-1] >= 0x80 {
			length++
		}
		refusesBytes(t, x.piece, join(ps)[:at+length], api.ErrLong, at)
	}
}

// TestOctets: every byte as a letter, and as what says whether a global is Mutable.
func TestOctets(t *testing.T) {
	ps := pieces(rich())
	for i, p := range ps {
		if p.kind != octet {
			continue
		}
		isLetter := p.b[0] > 1
		for c := range 256 {
			b, at := instead(ps, i, []byte{byte(c)})
			switch {
			case isLetter && c != 'w' && c != 'l':
				refusesBytes(t, p.name, b, api.ErrType, at)
				refusesBytes(t, p.name, b[:at+1], api.ErrType, at)
			case !isLetter && c > 1:
				refusesBytes(t, p.name, b, api.ErrRange, at)
				refusesBytes(t, p.name, b[:at+1], api.ErrRange, at)
			}
		}
	}
}

// TestValues: of a w a number of 32 bits with a sign, of an l one of 64.
func TestValues(t *testing.T) {
	for _, letter := range []byte("wl") {
		for _, v := range []int64{0, 1, -1, 5, -5, 63, 64, -64, -65, 1<<31 - 1, 1 << 31, 1<<31 + 1, -1 << 31, -1<<31 - 1, 1<<32 - 1, 1 << 32, -1 << 32, -1<<32 - 1, 1<<63 - 1, -1 << 63} {
			b := slices.Concat([]byte(head), []byte{0, 0, 1, letter, 1}, svar(v), make([]byte, 5))
			if letter == 'w' && (v < -1<<31 || v > 1<<31-1) {
				refusesBytes(t, "a w", b, api.ErrRange, 10)
				continue
			}
			want := uint64(v)
			if letter == 'w' && v < 0 {
				want = uint64(v + 1<<32)
			}
			m, e, at := module.Decode(b)
			if e != api.OK || at != 0 || len(m.Globals) != 1 || m.Globals[0] != (api.Global{Letter: letter, Mutable: true, Value: want}) {
				t.Errorf("P5.3: %c of %d: %v, %d at %d", letter, v, m, e, at)
			}
		}
	}
}

// TestInstructions: instr's error, and where the instruction begins, not the number in it.
func TestInstructions(t *testing.T) {
	ps := pieces(rich())
	for i, p := range ps {
		if p.kind != instruction {
			continue
		}
		for _, x := range []struct {
			b []byte
			e api.Errno
		}{
			{[]byte{0x0d}, api.ErrOp},
			{[]byte{0x17, 0x80, 0x00}, api.ErrOp},
			{[]byte{0xff}, api.ErrOp},
			{[]byte{0x09, 0x00}, api.ErrRange},
			{append([]byte{0x09, 0x11}, make([]byte, 17)...), api.ErrRange},
			{[]byte{0x09, 0x02, 0x00, 0x80, 0x00}, api.ErrLoose},
			{append([]byte{0x09, 0x02, 0x01}, uvar(1<<31)...), api.ErrRange},
			{append([]byte{0x12}, uvar(1<<31)...), api.ErrRange},
			{append([]byte{0x18}, svar(1<<31)...), api.ErrRange},
			{append([]byte{0x29}, uvar(1<<32)...), api.ErrRange},
		} {
			b, at := instead(ps, i, x.b)
			refusesBytes(t, p.name, b, x.e, at)
		}
	}
}

// holds: what follows, of any bytes.
func holds(t *testing.T, b []byte) {
	t.Helper()
	m, e, at := module.Decode(b)
	if e != api.OK {
		if at < 0 || at > len(b) || !same(m, api.Module{}) {
			t.Errorf("R2: Decode(%x): %v at %d beside error %d", b, m, at, e)
		}
		return
	}
	if at != 0 {
		t.Errorf("P5.3: Decode(%x): OK at %d", b, at)
	}
	if e := module.Check(m); e != api.OK {
		t.Errorf("what follows: %x is %v, of which Check is %d", b, m, e)
	}
	if again, e := module.Encode(m); e != api.OK || !bytes.Equal(again, b) {
		t.Errorf("what follows: %x is %v, and that again %x, %d", b, m, again, e)
	}
}

// TestCanonical: bytes near to those of modules that may be are read as themselves, or refused.
func TestCanonical(t *testing.T) {
	for _, m := range []api.Module{{}, example(), rich()} {
		whole := raw(m)
		for at := range whole {
			holds(t, slices.Delete(slices.Clone(whole), at, at+1))
			for c := range 256 {
				b := slices.Clone(whole)
				b[at] = byte(c)
				holds(t, b)
				holds(t, slices.Insert(slices.Clone(whole), at, byte(c)))
			}
			for behind := at + 1; behind < len(whole); behind++ {
				b := slices.Clone(whole)
				b[at], b[behind] = b[behind], b[at]
				holds(t, b)
			}
		}
	}
}

// TestShortTexts: all texts of three bytes that tell something, behind the five, and noughts behind them.
func TestShortTexts(t *testing.T) {
	telling := []byte{0x00, 0x01, 0x02, 0x03, 0x06, 0x09, 0x18, '!', 'l', 'w', 0x7f, 0x80, 0xff}
	for _, c := range telling {
		for _, d := range telling {
			for _, f := range telling {
				for ahead := range 6 {
					for behind := range 8 {
						holds(t, slices.Concat([]byte(head), make([]byte, ahead), []byte{c, d, f}, make([]byte, behind)))
					}
				}
			}
		}
	}
}

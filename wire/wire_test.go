package wire_test

import (
	"bytes"
	"math"
	"math/big"
	"math/bits"
	"slices"
	"strings"
	"testing"

	"flagon/api"
	"flagon/wire"
)

// run is n bytes of c, then the tail.
func run(c byte, n int, tail ...byte) []byte {
	return append(bytes.Repeat([]byte{c}, n), tail...)
}

// edges is every number near a power of two, where a group, the sign or the word ends.
func edges() []uint64 {
	out := []uint64{0, 300}
	for k := range 64 {
		p := uint64(1) << k
		out = append(out, p-1, p, p+1, -p)
	}
	return append(out, math.MaxUint64)
}

// inputs is all texts of up to two bytes, and longer ones of bytes that matter, up to past the tenth one.
func inputs() [][]byte {
	out := [][]byte{{}}
	for a := range 256 {
		out = append(out, []byte{byte(a)})
		for b := range 256 {
			out = append(out, []byte{byte(a), byte(b)})
		}
	}
	telling := []byte{0x00, 0x01, 0x02, 0x7f, 0x80, 0x81, 0xff}
	for _, c := range []byte{0x80, 0x81, 0xff} {
		for n := range 11 {
			for _, x := range telling {
				for _, y := range telling {
					out = append(out, run(c, n, x, y))
				}
			}
		}
	}
	return out
}

func TestUvarExamples(t *testing.T) {
	for _, x := range []struct {
		v    uint64
		want []byte
	}{
		{0, []byte{0}},
		{1, []byte{1}},
		{127, []byte{0x7f}},
		{128, []byte{0x80, 1}},
		{300, []byte{0xac, 2}},
		{16383, []byte{0xff, 0x7f}},
		{16384, []byte{0x80, 0x80, 1}},
		{1 << 63, run(0x80, 9, 1)},
		{math.MaxUint64, run(0xff, 9, 1)},
	} {
		if b := wire.Uvar(x.v); !bytes.Equal(b, x.want) {
			t.Errorf("P1.1: Uvar(%d): %x, not %x", x.v, b, x.want)
		}
	}
}

func TestUvarGroups(t *testing.T) {
	for _, v := range edges() {
		b := wire.Uvar(v)
		if want := max(1, (bits.Len64(v)+6)/7); len(b) != want {
			t.Errorf("P1.1: Uvar(%d): %d bytes, not %d", v, len(b), want)
		}
		sum := new(big.Int)
		for i, c := range b {
			if (c >= 128) != (i < len(b)-1) {
				t.Errorf("P1.1: Uvar(%d): bit 7 of byte %d in %x", v, i, b)
			}
			group := big.NewInt(int64(c % 128))
			sum.Add(sum, group.Lsh(group, uint(7*i)))
		}
		if !sum.IsUint64() || sum.Uint64() != v {
			t.Errorf("P1.1: Uvar(%d): the groups make %s", v, sum)
		}
	}
}

func TestSvarExamples(t *testing.T) {
	for _, x := range []struct {
		v    int64
		want []byte
	}{
		{0, []byte{0}},
		{-1, []byte{1}},
		{1, []byte{2}},
		{-64, []byte{0x7f}},
		{64, []byte{0x80, 1}},
		{63, []byte{0x7e}},
		{-65, []byte{0x81, 1}},
		{math.MaxInt64, slices.Concat([]byte{0xfe}, run(0xff, 8, 1))},
		{math.MinInt64, run(0xff, 9, 1)},
	} {
		if b := wire.Svar(x.v); !bytes.Equal(b, x.want) {
			t.Errorf("P1.1: Svar(%d): %x, not %x", x.v, b, x.want)
		}
	}
}

func TestSvarFolds(t *testing.T) {
	for _, u := range edges() {
		v := int64(u)
		folded := new(big.Int).Lsh(big.NewInt(v), 1)
		if v < 0 {
			folded.Neg(folded).Sub(folded, big.NewInt(1))
		}
		if b := wire.Svar(v); !bytes.Equal(b, wire.Uvar(folded.Uint64())) {
			t.Errorf("P1.1: Svar(%d): %x, not that of %s", v, b, folded)
		}
	}
}

func TestText(t *testing.T) {
	long := strings.Repeat("x", 128)
	for s, want := range map[string]string{
		"":            "\x00",
		"ab":          "\x02ab",
		"\xff\x00":    "\x02\xff\x00",
		"\u00e9":      "\x02\xc3\xa9",
		long[:127]:    "\x7f" + long[:127],
		long:          "\x80\x01" + long,
		"\x80\x80 \n": "\x04\x80\x80 \n",
	} {
		if b := wire.Text(s); string(b) != want {
			t.Errorf("P1.1: Text(%q): %q", s, b)
		}
	}
}

func TestReadUvar(t *testing.T) {
	for _, x := range []struct {
		b    []byte
		at   int
		v    uint64
		next int
	}{
		{[]byte{0}, 0, 0, 1},
		{[]byte{0x7f}, 0, 127, 1},
		{[]byte{0x80, 1}, 0, 128, 2},
		{[]byte{0x80, 1}, 1, 1, 2},
		{[]byte{0x80, 0x80, 1}, 0, 16384, 3},
		{[]byte{9, 0xac, 2, 9}, 1, 300, 3},
		{[]byte{0, 0}, 0, 0, 1},
		{[]byte{5, 0}, 1, 0, 2},
		{run(0xff, 8, 0x7f), 0, math.MaxInt64, 9},
		{run(0x80, 9, 1), 0, 1 << 63, 10},
		{run(0xff, 9, 1), 0, math.MaxUint64, 10},
		{run(0xff, 9, 1, 0xff), 0, math.MaxUint64, 10},
	} {
		if v, next, e := wire.ReadUvar(x.b, x.at); v != x.v || next != x.next || e != api.OK {
			t.Errorf("P1.2: ReadUvar of %x at %d: %d, %d, %d", x.b, x.at, v, next, e)
		}
	}
}

// faults is what no number is read of, whichever call is asked.
func faults() []struct {
	b  []byte
	at int
	e  api.Errno
} {
	return []struct {
		b  []byte
		at int
		e  api.Errno
	}{
		{nil, -1, api.ErrArg},
		{nil, 1, api.ErrArg},
		{[]byte{1}, -1, api.ErrArg},
		{[]byte{1}, 2, api.ErrArg},
		{[]byte{1}, math.MinInt, api.ErrArg},
		{[]byte{1}, math.MaxInt, api.ErrArg},
		{nil, 0, api.ErrEnd},
		{[]byte{}, 0, api.ErrEnd},
		{[]byte{1}, 1, api.ErrEnd},
		{[]byte{0x80}, 0, api.ErrEnd},
		{[]byte{1, 0x80}, 1, api.ErrEnd},
		{run(0xff, 9), 0, api.ErrEnd},
		{run(0x80, 9), 0, api.ErrEnd},
		{run(0xff, 9, 2), 0, api.ErrWide},
		{run(0xff, 9, 0x7f), 0, api.ErrWide},
		{run(0x80, 10), 0, api.ErrWide},
		{run(0x80, 9, 0x81, 0), 0, api.ErrWide},
		{run(0xff, 11, 1), 0, api.ErrWide},
		{run(0x80, 20), 10, api.ErrWide},
		{[]byte{0x80, 0}, 0, api.ErrLoose},
		{[]byte{0xff, 0}, 0, api.ErrLoose},
		{[]byte{0x80, 0x80, 0}, 0, api.ErrLoose},
		{[]byte{7, 0x81, 0, 7}, 1, api.ErrLoose},
		{run(0xff, 9, 0), 0, api.ErrLoose},
		{run(0x80, 8, 0), 0, api.ErrLoose},
	}
}

func TestNumberFaults(t *testing.T) {
	for _, x := range faults() {
		if v, next, e := wire.ReadUvar(x.b, x.at); v != 0 || next != 0 || e != x.e {
			t.Errorf("P1.2: ReadUvar of %x at %d: %d, %d, %d, not %d", x.b, x.at, v, next, e, x.e)
		}
		if v, next, e := wire.ReadSvar(x.b, x.at); v != 0 || next != 0 || e != x.e {
			t.Errorf("P1.2: ReadSvar of %x at %d: %d, %d, %d, not %d", x.b, x.at, v, next, e, x.e)
		}
		for _, most := range []int{0, 1, math.MaxInt} {
			if n, next, e := wire.ReadCount(x.b, x.at, most); n != 0 || next != 0 || e != x.e {
				t.Errorf("P1.3: ReadCount of %x at %d: %d, %d, %d, not %d", x.b, x.at, n, next, e, x.e)
			}
			if s, next, e := wire.ReadText(x.b, x.at, most); s != "" || next != 0 || e != x.e {
				t.Errorf("P1.3: ReadText of %x at %d: %q, %d, %d, not %d", x.b, x.at, s, next, e, x.e)
			}
		}
		for _, most := range []int{-1, math.MinInt} {
			if n, next, e := wire.ReadCount(x.b, x.at, most); n != 0 || next != 0 || e != api.ErrArg {
				t.Errorf("P1.3: ReadCount of %x at %d, most %d: %d, %d, %d", x.b, x.at, most, n, next, e)
			}
			if s, next, e := wire.ReadText(x.b, x.at, most); s != "" || next != 0 || e != api.ErrArg {
				t.Errorf("P1.3: ReadText of %x at %d, most %d: %q, %d, %d", x.b, x.at, most, s, next, e)
			}
		}
	}
}

func TestReadSvar(t *testing.T) {
	for _, x := range []struct {
		b    []byte
		at   int
		v    int64
		next int
	}{
		{[]byte{0}, 0, 0, 1},
		{[]byte{1}, 0, -1, 1},
		{[]byte{2}, 0, 1, 1},
		{[]byte{9, 0x7f, 9}, 1, -64, 2},
		{[]byte{9, 0x80, 1, 9}, 1, 64, 3},
		{run(0xff, 9, 1), 0, math.MinInt64, 10},
		{slices.Concat([]byte{0xfe}, run(0xff, 8, 1)), 0, math.MaxInt64, 10},
	} {
		if v, next, e := wire.ReadSvar(x.b, x.at); v != x.v || next != x.next || e != api.OK {
			t.Errorf("P1.2: ReadSvar of %x at %d: %d, %d, %d", x.b, x.at, v, next, e)
		}
	}
}

func TestReadCount(t *testing.T) {
	for _, x := range []struct {
		b        []byte
		at, most int
		n, next  int
		e        api.Errno
		what     string
	}{
		{[]byte{0}, 0, 0, 0, 1, api.OK, "none, at most none"},
		{[]byte{1}, 0, 0, 0, 0, api.ErrMany, "one above none"},
		{[]byte{4}, 0, 4, 4, 1, api.OK, "just most"},
		{[]byte{5}, 0, 4, 0, 0, api.ErrMany, "one above most"},
		{[]byte{9, 0x80, 1, 9}, 1, 128, 128, 3, api.OK, "just most, behind others"},
		{[]byte{9, 0x80, 1, 9}, 1, 127, 0, 0, api.ErrMany, "one above most, behind others"},
		{[]byte{3}, 0, math.MaxInt, 3, 1, api.OK, "a bound as great as may be"},
		{wire.Uvar(math.MaxInt), 0, math.MaxInt, math.MaxInt, len(wire.Uvar(math.MaxInt)), api.OK, "a count as great as may be"},
		{wire.Uvar(math.MaxInt + 1), 0, math.MaxInt, 0, 0, api.ErrMany, "too great for an int"},
		{wire.Uvar(math.MaxUint64), 0, math.MaxInt, 0, 0, api.ErrMany, "the greatest number"},
		{wire.Uvar(math.MaxUint64), 0, 0, 0, 0, api.ErrMany, "the greatest number above none"},
		{[]byte{4}, 0, -1, 0, 0, api.ErrArg, "a bound below 0"},
		{[]byte{0}, 0, -1, 0, 0, api.ErrArg, "none, a bound below 0"},
		{nil, 0, -1, 0, 0, api.ErrArg, "a bound below 0 ahead of the end"},
		{[]byte{0x85, 0}, 0, 4, 0, 0, api.ErrLoose, "loose ahead of many"},
	} {
		if n, next, e := wire.ReadCount(x.b, x.at, x.most); n != x.n || next != x.next || e != x.e {
			t.Errorf("P1.3: %s: %d, %d, %d", x.what, n, next, e)
		}
	}
}

func TestReadText(t *testing.T) {
	for _, x := range []struct {
		b        []byte
		at, most int
		s        string
		next     int
		e        api.Errno
		what     string
	}{
		{[]byte{0}, 0, 0, "", 1, api.OK, "the empty text"},
		{[]byte{9, 2, 'a', 'b', 'c'}, 1, 2, "ab", 4, api.OK, "just most, behind others"},
		{[]byte{2, 'a', 'b'}, 0, 9, "ab", 3, api.OK, "to the last byte"},
		{[]byte{2, 0xff, 0}, 0, 2, "\xff\x00", 3, api.OK, "bytes that are no letters"},
		{[]byte{2, 'a', 'b'}, 0, 1, "", 0, api.ErrLong, "one above most"},
		{[]byte{1, 'a'}, 0, 0, "", 0, api.ErrLong, "one above none"},
		{[]byte{5, 'a'}, 0, 4, "", 0, api.ErrLong, "long ahead of the end"},
		{[]byte{3, 'a'}, 0, 3, "", 0, api.ErrEnd, "too few bytes"},
		{[]byte{3, 'a', 'b'}, 0, 3, "", 0, api.ErrEnd, "one byte too few"},
		{[]byte{9, 9, 1}, 2, 1, "", 0, api.ErrEnd, "no byte but the length"},
		{wire.Uvar(math.MaxInt), 0, math.MaxInt, "", 0, api.ErrEnd, "a length as great as may be"},
		{wire.Uvar(math.MaxUint64), 0, math.MaxInt, "", 0, api.ErrLong, "the greatest number"},
		{[]byte{0}, 0, -1, "", 0, api.ErrArg, "a bound below 0"},
		{nil, 0, -1, "", 0, api.ErrArg, "a bound below 0 ahead of the end"},
		{[]byte{0x85, 0}, 0, 4, "", 0, api.ErrLoose, "loose ahead of long"},
		{slices.Concat([]byte{0x80, 1}, run('x', 128)), 0, 128, strings.Repeat("x", 128), 130, api.OK, "a length of two bytes"},
	} {
		if s, next, e := wire.ReadText(x.b, x.at, x.most); s != x.s || next != x.next || e != x.e {
			t.Errorf("P1.3: %s: %q, %d, %d", x.what, s, next, e)
		}
	}
}

func TestWrittenIsRead(t *testing.T) {
	front := []byte{0x80, 7}
	for _, tail := range [][]byte{nil, {0}, {1}, {0x80}, {0xff, 0xff}} {
		for _, v := range edges() {
			b := slices.Concat(front, wire.Uvar(v), tail)
			if u, next, e := wire.ReadUvar(b, 2); u != v || next != len(b)-len(tail) || e != api.OK {
				t.Errorf("there and back: Uvar(%d), behind it %x: %d, %d, %d", v, tail, u, next, e)
			}
			b = slices.Concat(front, wire.Svar(int64(v)), tail)
			if u, next, e := wire.ReadSvar(b, 2); u != int64(v) || next != len(b)-len(tail) || e != api.OK {
				t.Errorf("there and back: Svar(%d), behind it %x: %d, %d, %d", int64(v), tail, u, next, e)
			}
		}
		for n := range 300 {
			s := strings.Repeat("\x80a", n)[:n]
			b := slices.Concat(front, wire.Text(s), tail)
			if r, next, e := wire.ReadText(b, 2, n); r != s || next != len(b)-len(tail) || e != api.OK {
				t.Errorf("there and back: Text of %d bytes, behind it %x: %q, %d, %d", n, tail, r, next, e)
			}
		}
	}
}

func TestReadIsWritten(t *testing.T) {
	for _, b := range inputs() {
		for at := range len(b) + 1 {
			if v, next, e := wire.ReadUvar(b, at); e == api.OK && !bytes.Equal(wire.Uvar(v), b[at:next]) {
				t.Errorf("back and there: %x at %d: Uvar(%d)", b, at, v)
			}
			if v, next, e := wire.ReadSvar(b, at); e == api.OK && !bytes.Equal(wire.Svar(v), b[at:next]) {
				t.Errorf("back and there: %x at %d: Svar(%d)", b, at, v)
			}
			if n, next, e := wire.ReadCount(b, at, math.MaxInt); e == api.OK && !bytes.Equal(wire.Uvar(uint64(n)), b[at:next]) {
				t.Errorf("back and there: %x at %d: count %d", b, at, n)
			}
			if s, next, e := wire.ReadText(b, at, math.MaxInt); e == api.OK && !bytes.Equal(wire.Text(s), b[at:next]) {
				t.Errorf("back and there: %x at %d: Text(%q)", b, at, s)
			}
		}
	}
}

func TestOneFormAlone(t *testing.T) {
	seen := map[uint64]string{}
	for _, b := range inputs() {
		v, next, e := wire.ReadUvar(b, 0)
		if e != api.OK {
			continue
		}
		form := string(b[:next])
		if other, ok := seen[v]; ok && other != form {
			t.Errorf("one form alone: %d is read of %x and of %x", v, other, form)
		}
		seen[v] = form
	}
}

func TestBeginningsEnd(t *testing.T) {
	for _, v := range edges() {
		for b := wire.Uvar(v); len(b) > 0; {
			b = b[:len(b)-1]
			if u, next, e := wire.ReadUvar(b, 0); u != 0 || next != 0 || e != api.ErrEnd {
				t.Errorf("a beginning of Uvar(%d): %x: %d, %d, %d", v, b, u, next, e)
			}
		}
		for b := wire.Svar(int64(v)); len(b) > 0; {
			b = b[:len(b)-1]
			if u, next, e := wire.ReadSvar(b, 0); u != 0 || next != 0 || e != api.ErrEnd {
				t.Errorf("a beginning of Svar(%d): %x: %d, %d, %d", int64(v), b, u, next, e)
			}
		}
	}
	for _, n := range []int{0, 1, 2, 127, 128, 200} {
		for b := wire.Text(strings.Repeat("a", n)); len(b) > 0; {
			b = b[:len(b)-1]
			if s, next, e := wire.ReadText(b, 0, n); s != "" || next != 0 || e != api.ErrEnd {
				t.Errorf("a beginning of a text of %d bytes: %d bytes: %q, %d, %d", n, len(b), s, next, e)
			}
		}
	}
}

func TestAnswersAreNewMemory(t *testing.T) {
	write := []func() []byte{
		func() []byte { return wire.Uvar(300) },
		func() []byte { return wire.Svar(-300) },
		func() []byte { return wire.Text("ab") },
	}
	for i, f := range write {
		first := f()
		want := bytes.Clone(first)
		whole := first[:cap(first)]
		for k := range whole {
			whole[k] = 0xee
		}
		if b := f(); !bytes.Equal(b, want) {
			t.Errorf("R5: writer %d: %x after its first answer was changed, not %x", i, b, want)
		}
	}
	b := wire.Text("ab")
	s, _, _ := wire.ReadText(b, 0, 2)
	b[1] = 'x'
	if s != "ab" {
		t.Errorf("R5: a text that was read became %q", s)
	}
}

func TestArgumentsStay(t *testing.T) {
	whole := []byte{2, 'a', 0x80, 1, 'b'}
	want := bytes.Clone(whole)
	b := whole[:3] // what stands in the spare room would make the number and the text whole
	if _, _, e := wire.ReadUvar(b, 2); e != api.ErrEnd {
		t.Errorf("R5: ReadUvar into the spare room: %d", e)
	}
	if _, _, e := wire.ReadText(b[:2], 0, 2); e != api.ErrEnd {
		t.Errorf("R5: ReadText into the spare room: %d", e)
	}
	if _, _, e := wire.ReadUvar(b, 4); e != api.ErrArg {
		t.Errorf("P1.2: a place in the spare room: %d", e)
	}
	wire.ReadSvar(b, 2)
	wire.ReadCount(b, 0, 2)
	if !bytes.Equal(whole, want) {
		t.Errorf("R5: the argument became %x", whole)
	}
}

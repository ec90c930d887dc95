package instr_test

import (
	"bytes"
	"math"
	"slices"
	"testing"

	"flagon/api"
	"flagon/instr"
)

// What the numbers of an instruction are, as the table of chapter 3 has them.
const (
	none = iota
	index
	offset
	constW
	constL
	labels
	noOp
)

// kindOf is written out of the document's table, so that nothing of the program is held against itself.
func kindOf(op byte) int {
	switch {
	case op >= 0x02 && op <= 0x04, op == 0x07, op == 0x08, op == 0x0b, op == 0x0c, op >= 0x12 && op <= 0x16:
		return index
	case op == 0x09:
		return labels
	case op == 0x18:
		return constW
	case op == 0x19:
		return constL
	case op >= 0x20 && op <= 0x29:
		return offset
	case op <= 0x0c, op == 0x10, op == 0x11, op == 0x2a, op == 0x2b, op >= 0x30 && op <= 0x48, op >= 0x50 && op <= 0x68, op >= 0x70 && op <= 0x75:
		return none
	}
	return noOp
}

// bounds is the least and the greatest A of a kind.
func bounds(kind int) (int64, int64) {
	switch kind {
	case index:
		return 0, 1<<31 - 1
	case offset:
		return 0, 1<<32 - 1
	case constW:
		return -1 << 31, 1<<31 - 1
	case constL:
		return -1 << 63, 1<<63 - 1
	}
	return 0, 0
}

// numbers is every number near to a bound of some kind, and some between.
func numbers() []int64 {
	out := []int64{0, 5, -3, 63, 64, -64, -65, 127, 128, 300}
	for _, v := range []int64{0, 1 << 31, -1 << 31, 1 << 32, -1 << 32, 1 << 62, -1 << 62} {
		out = append(out, v-2, v-1, v, v+1, v+2)
	}
	return append(out, math.MaxInt64, math.MaxInt64-1, math.MinInt64, math.MinInt64+1)
}

// lists is lists of labels, those that may be and those that may not.
func lists() [][]int {
	out := [][]int{nil, {}}
	for n := 1; n <= 18; n++ {
		list := make([]int, n)
		out = append(out, list)
		for at := range list {
			for _, v := range []int{1, 127, 128, 300, 1<<31 - 1, 1 << 31, 1 << 32, math.MaxInt, -1, -1 << 31, math.MinInt} {
				one := slices.Clone(list)
				one[at] = v
				out = append(out, one)
			}
		}
	}
	return append(out, make([]int, 256), make([]int, 257), make([]int, 1<<16+1))
}

// mayBe is what P4.1 says.
func mayBe(x api.Ins) api.Errno {
	kind := kindOf(x.Op)
	if kind == noOp {
		return api.ErrOp
	}
	least, most := bounds(kind)
	if x.A < least || x.A > most {
		return api.ErrRange
	}
	if kind != labels {
		if len(x.L) > 0 {
			return api.ErrRange
		}
		return api.OK
	}
	if len(x.L) < 1 || len(x.L) > 16 {
		return api.ErrRange
	}
	for _, v := range x.L {
		if v < 0 || v > 1<<31-1 {
			return api.ErrRange
		}
	}
	return api.OK
}

// uvar and svar are the numbers' bytes, written by division, and not by package wire.
func uvar(v uint64) []byte {
	var out []byte
	for v >= 128 {
		out = append(out, byte(v%128+128))
		v /= 128
	}
	return append(out, byte(v))
}

func svar(v int64) []byte {
	if v < 0 {
		return uvar(2*uint64(-(v+1)) + 1)
	}
	return uvar(2 * uint64(v))
}

// bytesOf is what P4.2 says of an instruction that may be.
func bytesOf(x api.Ins) []byte {
	b := []byte{x.Op}
	switch kindOf(x.Op) {
	case index, offset:
		return append(b, uvar(uint64(x.A))...)
	case constW, constL:
		return append(b, svar(x.A)...)
	case labels:
		b = append(b, uvar(uint64(len(x.L)))...)
		for _, v := range x.L {
			b = append(b, uvar(uint64(v))...)
		}
	}
	return b
}

func same(x, y api.Ins) bool {
	return x.Op == y.Op && x.A == y.A && slices.Equal(x.L, y.L)
}

// instructions is all bytes as opcodes with all the numbers, and with the lists.
func instructions() []api.Ins {
	var out []api.Ins
	for op := range 256 {
		for _, a := range numbers() {
			out = append(out, api.Ins{Op: byte(op), A: a}, api.Ins{Op: byte(op), A: a, L: []int{1}})
		}
		for _, l := range lists() {
			if op == 0x09 || len(l) < 3 || len(l) > 15 {
				out = append(out, api.Ins{Op: byte(op), L: l})
			}
		}
	}
	for _, a := range numbers() {
		out = append(out, api.Ins{Op: 0x09, A: a, L: []int{0, 1, 300}})
	}
	return out
}

func TestTable(t *testing.T) {
	count := map[int]int{}
	for op := range 256 {
		count[kindOf(byte(op))]++
	}
	if count[noOp] != 256-90 || count[index] != 12 || count[offset] != 10 || count[labels] != 1 || count[constW] != 1 || count[constL] != 1 {
		t.Fatalf("the table of this test itself: %v", count)
	}
}

func TestCheckExamples(t *testing.T) {
	for _, x := range []struct {
		x    api.Ins
		want api.Errno
	}{
		{api.Ins{Op: 0x18, A: -3}, api.OK},
		{api.Ins{Op: 0x09, L: []int{0, 1, 300}}, api.OK},
		{api.Ins{Op: 0x30}, api.OK},
		{api.Ins{Op: 0x30, A: 1}, api.ErrRange},
		{api.Ins{Op: 0x30, A: -1}, api.ErrRange},
		{api.Ins{Op: 0x30, L: []int{0}}, api.ErrRange},
		{api.Ins{Op: 0x30, L: []int{}}, api.OK},
		{api.Ins{Op: 0x0d}, api.ErrOp},
		{api.Ins{Op: 0x0d, A: -1, L: make([]int, 17)}, api.ErrOp},
		{api.Ins{Op: 0x09}, api.ErrRange},
		{api.Ins{Op: 0x09, L: []int{}}, api.ErrRange},
		{api.Ins{Op: 0x09, L: make([]int, 1)}, api.OK},
		{api.Ins{Op: 0x09, L: make([]int, 16)}, api.OK},
		{api.Ins{Op: 0x09, L: make([]int, 17)}, api.ErrRange},
		{api.Ins{Op: 0x09, A: 1, L: []int{0}}, api.ErrRange},
		{api.Ins{Op: 0x09, L: []int{0, -1}}, api.ErrRange},
		{api.Ins{Op: 0x09, L: []int{1<<31 - 1}}, api.OK},
		{api.Ins{Op: 0x09, L: []int{1 << 31}}, api.ErrRange},
		{api.Ins{Op: 0x18, A: 1<<31 - 1}, api.OK},
		{api.Ins{Op: 0x18, A: 1 << 31}, api.ErrRange},
		{api.Ins{Op: 0x18, A: -1 << 31}, api.OK},
		{api.Ins{Op: 0x18, A: -1<<31 - 1}, api.ErrRange},
		{api.Ins{Op: 0x19, A: -1 << 63}, api.OK},
		{api.Ins{Op: 0x19, A: 1<<63 - 1}, api.OK},
		{api.Ins{Op: 0x19, L: []int{0}}, api.ErrRange},
		{api.Ins{Op: 0x20, A: 1<<32 - 1}, api.OK},
		{api.Ins{Op: 0x20, A: 1 << 32}, api.ErrRange},
		{api.Ins{Op: 0x20, A: -1}, api.ErrRange},
		{api.Ins{Op: 0x12, A: 1<<31 - 1}, api.OK},
		{api.Ins{Op: 0x12, A: 1 << 31}, api.ErrRange},
		{api.Ins{Op: 0x12, A: -1}, api.ErrRange},
	} {
		if e := instr.Check(x.x); e != x.want {
			t.Errorf("P4.1: Check(%v): %d, not %d", x.x, e, x.want)
		}
	}
}

func TestCheckAll(t *testing.T) {
	for _, x := range instructions() {
		if e, want := instr.Check(x), mayBe(x); e != want {
			t.Errorf("P4.1: Check(%02x, %d, %d numbers): %d, not %d", x.Op, x.A, len(x.L), e, want)
		}
	}
}

func TestEncodeExamples(t *testing.T) {
	for _, x := range []struct {
		x    api.Ins
		want []byte
	}{
		{api.Ins{Op: 0x18, A: -3}, []byte{0x18, 0x05}},
		{api.Ins{Op: 0x09, L: []int{0, 1, 300}}, []byte{0x09, 0x03, 0x00, 0x01, 0xac, 0x02}},
		{api.Ins{Op: 0x30}, []byte{0x30}},
		{api.Ins{Op: 0x00}, []byte{0x00}},
		{api.Ins{Op: 0x12, A: 5}, []byte{0x12, 0x05}},
		{api.Ins{Op: 0x18, A: 5}, []byte{0x18, 0x0a}},
		{api.Ins{Op: 0x19, A: 64}, []byte{0x19, 0x80, 0x01}},
		{api.Ins{Op: 0x19, A: -1 << 63}, slices.Concat([]byte{0x19}, bytes.Repeat([]byte{0xff}, 9), []byte{0x01})},
		{api.Ins{Op: 0x02, A: 1<<31 - 1}, []byte{0x02, 0xff, 0xff, 0xff, 0xff, 0x07}},
		{api.Ins{Op: 0x29, A: 1<<32 - 1}, []byte{0x29, 0xff, 0xff, 0xff, 0xff, 0x0f}},
		{api.Ins{Op: 0x09, L: make([]int, 16)}, append([]byte{0x09, 0x10}, make([]byte, 16)...)},
	} {
		if b, e := instr.Encode(x.x); !bytes.Equal(b, x.want) || e != api.OK {
			t.Errorf("P4.2: Encode(%v): %x, %d, not %x", x.x, b, e, x.want)
		}
	}
}

func TestEncodeAll(t *testing.T) {
	for _, x := range instructions() {
		want := mayBe(x)
		b, e := instr.Encode(x)
		if e != want {
			t.Errorf("P4.2: Encode(%02x, %d, %d numbers): error %d, not %d", x.Op, x.A, len(x.L), e, want)
		}
		if want != api.OK && len(b) != 0 {
			t.Errorf("P4.2, R2: Encode(%02x, %d, %d numbers): %x beside an error", x.Op, x.A, len(x.L), b)
		}
		if want == api.OK && !bytes.Equal(b, bytesOf(x)) {
			t.Errorf("P4.2: Encode(%v): %x, not %x", x, b, bytesOf(x))
		}
	}
}

// refused: Decode answers that error, and nothing beside it.
func refused(t *testing.T, b []byte, at int, want api.Errno) {
	t.Helper()
	if x, next, e := instr.Decode(b, at); e != want || next != 0 || !same(x, api.Ins{}) {
		t.Errorf("P4.3: Decode(%x, %d): %v, %d, %d, not error %d", b, at, x, next, e, want)
	}
}

// read: Decode answers that instruction, and the place behind it.
func read(t *testing.T, b []byte, at int, want api.Ins, behind int) {
	t.Helper()
	if x, next, e := instr.Decode(b, at); e != api.OK || next != behind || !same(x, want) {
		t.Errorf("P4.3: Decode(%x, %d): %v, %d, %d, not %v, %d", b, at, x, next, e, want, behind)
	}
}

func TestDecodeExamples(t *testing.T) {
	refused(t, []byte{0x07}, 0, api.ErrEnd)
	refused(t, []byte{0x07, 0x80, 0x00}, 0, api.ErrLoose)
	refused(t, []byte{0x0d}, 0, api.ErrOp)
	refused(t, []byte{0x09, 0x00}, 0, api.ErrRange)
	refused(t, nil, 0, api.ErrEnd)
	refused(t, []byte{}, 0, api.ErrEnd)
	read(t, []byte{0xff, 0x12, 0x05}, 1, api.Ins{Op: 0x12, A: 5}, 3)
	read(t, []byte{0x18, 0x05}, 0, api.Ins{Op: 0x18, A: -3}, 2)
	read(t, []byte{0x09, 0x03, 0x00, 0x01, 0xac, 0x02}, 0, api.Ins{Op: 0x09, L: []int{0, 1, 300}}, 6)
	read(t, []byte{0x30, 0x12}, 0, api.Ins{Op: 0x30}, 1)
	read(t, []byte{0x30, 0x12, 0x07}, 1, api.Ins{Op: 0x12, A: 7}, 3)
}

func TestDecodePlaces(t *testing.T) {
	b := []byte{0x30, 0x12, 0x05}
	for _, at := range []int{-1, -2, math.MinInt, 4, 5, math.MaxInt} {
		refused(t, b, at, api.ErrArg)
	}
	for _, at := range []int{-1, 1, math.MinInt, math.MaxInt} {
		refused(t, nil, at, api.ErrArg)
		refused(t, []byte{}, at, api.ErrArg)
	}
	refused(t, b, 3, api.ErrEnd)
	refused(t, b[:2], 1, api.ErrEnd) // what stands in the spare room is not read
	refused(t, b[:1], 1, api.ErrEnd)
	refused(t, b[:1], 2, api.ErrArg)
	refused(t, []byte{0x0d, 0x0d}, -1, api.ErrArg)
}

func TestDecodeOpcodes(t *testing.T) {
	for op := range 256 {
		b := []byte{byte(op), 0x01, 0x00}
		switch kindOf(byte(op)) {
		case noOp:
			for _, behind := range [][]byte{nil, {0x80}, {0x80, 0x00}, bytes.Repeat([]byte{0xff}, 10), {0x00, 0x00}} {
				refused(t, append([]byte{byte(op)}, behind...), 0, api.ErrOp)
			}
		case none:
			read(t, b, 0, api.Ins{Op: byte(op)}, 1)
			read(t, b[:1], 0, api.Ins{Op: byte(op)}, 1)
			read(t, []byte{byte(op), 0x80, 0x00}, 0, api.Ins{Op: byte(op)}, 1)
		case index, offset:
			read(t, b, 0, api.Ins{Op: byte(op), A: 1}, 2)
		case constW, constL:
			read(t, b, 0, api.Ins{Op: byte(op), A: -1}, 2)
		case labels:
			read(t, b, 0, api.Ins{Op: byte(op), L: []int{0}}, 3)
		}
	}
}

// TestDecodeNumbers: of every opcode with one number, the least, the greatest, those beyond, and forms that wire refuses.
func TestDecodeNumbers(t *testing.T) {
	for op := range 256 {
		kind := kindOf(byte(op))
		if kind == none || kind == labels || kind == noOp {
			continue
		}
		ahead := []byte{0x0d, byte(op)}
		least, most := bounds(kind)
		for _, v := range numbers() {
			number := uvar(uint64(v)) // of those below 0 a number from 2^63 on
			if kind == constW || kind == constL {
				number = svar(v)
			}
			b := slices.Concat(ahead, number)
			if v < least || v > most {
				refused(t, b, 1, api.ErrRange)
			} else {
				read(t, b, 1, api.Ins{Op: byte(op), A: v}, len(b))
			}
			for end := 2; end < len(b); end++ {
				refused(t, b[:end], 1, api.ErrEnd)
				refused(t, slices.Clone(b[:end]), 1, api.ErrEnd)
			}
			if len(number) < 10 { // the same number, with a group of noughts behind
				b[len(b)-1] |= 0x80
				refused(t, append(b, 0x00), 1, api.ErrLoose)
				refused(t, append(b, 0x00, 0x00), 1, api.ErrLoose)
			}
		}
		refused(t, slices.Concat(ahead, bytes.Repeat([]byte{0xff}, 9), []byte{0x02}), 1, api.ErrWide)
		refused(t, slices.Concat(ahead, bytes.Repeat([]byte{0x80}, 10)), 1, api.ErrWide)
		refused(t, slices.Concat(ahead, bytes.Repeat([]byte{0x80}, 9), []byte{0x00}), 1, api.ErrLoose)
	}
}

func TestDecodeLabels(t *testing.T) {
	wide := append(bytes.Repeat([]byte{0xff}, 9), 0x02)
	great := uvar(1 << 31)
	for _, x := range []struct {
		b    []byte
		want api.Errno
	}{
		{nil, api.ErrEnd},
		{[]byte{0x80}, api.ErrEnd},
		{[]byte{0x80, 0x00}, api.ErrLoose},
		{[]byte{0x81, 0x00, 0x05}, api.ErrLoose},
		{wide, api.ErrWide},
		{[]byte{0x00}, api.ErrRange},
		{[]byte{0x11}, api.ErrRange}, // how many there are is told ahead of the labels that are not there
		{append([]byte{0x11}, make([]byte, 17)...), api.ErrRange},
		{[]byte{0x11, 0x80, 0x00}, api.ErrRange},
		{[]byte{0x00, 0x80, 0x00}, api.ErrRange},
		{uvar(1 << 31), api.ErrRange},
		{uvar(1<<32 + 1), api.ErrRange},
		{uvar(1 << 63), api.ErrRange},
		{uvar(math.MaxUint64), api.ErrRange},
		{[]byte{0x10}, api.ErrEnd},
		{append([]byte{0x10}, make([]byte, 15)...), api.ErrEnd},
		{[]byte{0x02, 0x00}, api.ErrEnd},
		{[]byte{0x02, 0x00, 0x80}, api.ErrEnd},
		{[]byte{0x02, 0x00, 0x80, 0x00}, api.ErrLoose},
		{slices.Concat([]byte{0x02, 0x00}, great), api.ErrRange},
		{slices.Concat([]byte{0x02, 0x00}, wide), api.ErrWide},
		{slices.Concat([]byte{0x02}, great), api.ErrRange}, // the first fault is told, though the bytes end behind it
		{slices.Concat([]byte{0x02}, great, []byte{0x80, 0x00}), api.ErrRange},
		{slices.Concat([]byte{0x02, 0x80, 0x00}, great), api.ErrLoose},
		{slices.Concat([]byte{0x02}, wide, great), api.ErrWide},
		{slices.Concat([]byte{0x01}, uvar(1<<32)), api.ErrRange},
		{slices.Concat([]byte{0x01}, uvar(1<<63)), api.ErrRange},
		{slices.Concat([]byte{0x01}, uvar(math.MaxUint64)), api.ErrRange},
	} {
		refused(t, append([]byte{0x09}, x.b...), 0, x.want)
		refused(t, append([]byte{0x30, 0x09}, x.b...), 1, x.want)
	}
	for _, l := range lists() {
		x := api.Ins{Op: 0x09, L: l}
		b := bytesOf(x)
		if mayBe(x) != api.OK {
			refused(t, b, 0, api.ErrRange)
			continue
		}
		read(t, b, 0, x, len(b))
		for end := range b {
			refused(t, b[:end], 0, api.ErrEnd)
		}
	}
}

// TestThereAndBack: whatever stands ahead and behind.
func TestThereAndBack(t *testing.T) {
	for _, x := range instructions() {
		b, e := instr.Encode(x)
		if e != api.OK {
			continue
		}
		for _, behind := range [][]byte{nil, {0x00}, {0x80}, {0xff}, {0x80, 0x00}, b} {
			if y, next, e := instr.Decode(slices.Concat(b, behind), 0); e != api.OK || next != len(b) || !same(x, y) {
				t.Errorf("what follows: %v as %x, %x behind: %v, %d, %d", x, b, behind, y, next, e)
			}
			if y, next, e := instr.Decode(slices.Concat(behind, b, behind), len(behind)); e != api.OK || next != len(behind)+len(b) || !same(x, y) {
				t.Errorf("what follows: %v as %x, %x ahead: %v, %d, %d", x, b, behind, y, next, e)
			}
		}
		for end := range b {
			if y, next, e := instr.Decode(b[:end], 0); e != api.ErrEnd {
				t.Errorf("P4.3: a beginning of %x, %d bytes: %v, %d, %d", b, end, y, next, e)
			}
		}
	}
}

// texts is all texts of two bytes, and longer ones of bytes that matter behind every opcode.
func texts() [][]byte {
	telling := []byte{0x00, 0x01, 0x02, 0x03, 0x07, 0x08, 0x0f, 0x10, 0x11, 0x7f, 0x80, 0x81, 0xff}
	var out [][]byte
	for op := range 256 {
		for second := range 256 {
			out = append(out, []byte{byte(op), byte(second)})
		}
		for _, a := range telling {
			for _, b := range telling {
				for _, c := range telling {
					out = append(out, []byte{byte(op), a, b, c}, []byte{byte(op), 0x80, 0x80, 0x80, a, b, c})
				}
				for n := range 10 {
					out = append(out, slices.Concat([]byte{byte(op)}, bytes.Repeat([]byte{0xff}, n), []byte{a, b}))
				}
			}
		}
	}
	return out
}

// TestBackAndThere: what is decoded is one that may be, and its bytes are just those that were read.
func TestBackAndThere(t *testing.T) {
	for _, b := range texts() {
		x, next, e := instr.Decode(b, 0)
		if e != api.OK {
			if next != 0 || !same(x, api.Ins{}) {
				t.Errorf("R2: Decode(%x): %v, %d beside error %d", b, x, next, e)
			}
			continue
		}
		if e := instr.Check(x); e != api.OK {
			t.Errorf("what follows: %x is %v, of which Check is %d", b, x, e)
		}
		if again, e := instr.Encode(x); e != api.OK || next < 1 || next > len(b) || !bytes.Equal(again, b[:next]) {
			t.Errorf("what follows: %x is %v to %d, and that again %x, %d", b, x, next, again, e)
		}
	}
}

func TestMemory(t *testing.T) {
	room := []int{1, 2, 300, 7, 8}
	x := api.Ins{Op: 0x09, L: room[:3]}
	instr.Check(x)
	b, _ := instr.Encode(x)
	b2, _ := instr.Encode(x)
	want := []byte{0x09, 0x03, 0x01, 0x02, 0xac, 0x02}
	for at := range b[:cap(b)] {
		b[:cap(b)][at] = 0xee
	}
	if !bytes.Equal(b2, want) {
		t.Errorf("R5: two answers of Encode share memory: %x", b2)
	}
	if !slices.Equal(room, []int{1, 2, 300, 7, 8}) {
		t.Errorf("R5: L is changed: %v", room)
	}

	full := append(slices.Clone(want), 0x80, 0x80)
	in := full[:6]
	y, _, _ := instr.Decode(in, 0)
	y2, _, _ := instr.Decode(in, 0)
	for at := range y.L[:cap(y.L)] {
		y.L[:cap(y.L)][at] = -1
	}
	if !slices.Equal(y2.L, []int{1, 2, 300}) {
		t.Errorf("R5: two answers of Decode share memory: %v", y2.L)
	}
	for at := range in {
		in[at] = 0
	}
	if !slices.Equal(y2.L, []int{1, 2, 300}) || full[6] != 0x80 || full[7] != 0x80 {
		t.Errorf("R5: Decode keeps or changes b: %v, %x", y2.L, full)
	}
	b3 := slices.Clone(want)
	instr.Decode(b3, 0)
	if !bytes.Equal(b3, want) {
		t.Errorf("R5: b is changed: %x", b3)
	}
}

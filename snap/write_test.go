package snap_test

import (
	"bytes"
	"encoding/hex"
	"math"
	"slices"
	"testing"

	"flagon/api"
	"flagon/snap"
)

// TestExamples: every row of the chapter.
func TestExamples(t *testing.T) {
	first := head + "\x02\x00\x02\x00\x01\x05\x00\x00\x00\x00"
	second := head + "\x01\x00\x00\x00\x00\x00\x02\x01\x01" + string(page(4095, 7)) + "\x01\x00\x03\x00\x01\xac\x02"
	for want, s := range map[string]api.State{
		first:  {End: 2, Results: []uint64{5}, Used: 2},
		second: {End: 1, Frames: []api.Frame{{Function: 0, Pc: 3, Stack: []uint64{300}}}, Pages: [][]byte{blank(), page(4095, 7)}},
	} {
		if b, e := snap.Write(s); e != api.OK || string(b) != want {
			t.Errorf("P22.1: Write of %s: %d, %.60x", told(s), e, b)
		}
		if got, e, at := snap.Read([]byte(want)); e != api.OK || at != 0 || !identical(got, s) {
			t.Errorf("P22.2: Read of %.60x: %d, %d, %s", want, e, at, told(got))
		}
	}
	refuses(t, api.State{}, "End 0")
	refuses(t, api.State{End: 1, Used: -1}, "Used -1")
	refuses(t, api.State{End: 1, Pages: [][]byte{make([]byte, 5)}}, "a page of 5 bytes")
	fails(t, []byte(first+"\x00"), api.ErrRest, 15, "the first one and 00")
	fails(t, []byte(first[:14]), api.ErrEnd, 14, "the first one without its last byte")
	fails(t, []byte(head+"\x04"+first[6:]), api.ErrRange, 5, "the first one with End 04")
	fails(t, []byte("FSNP"), api.ErrMagic, 0, "FSNP")
	noughts := head + "\x01\x00\x00\x00\x00\x00\x01\x01\x00" + string(blank()) + "\x00"
	fails(t, []byte(noughts), api.ErrLoose, 14, "a page of noughts that is written")
}

// TestWholeExample: what the document's eighth example of the whole saves.
func TestWholeExample(t *testing.T) {
	s := api.State{End: 1, Used: 1, Frames: []api.Frame{{Function: 0, Pc: 1, Stack: []uint64{5}}}}
	b, e := snap.Write(s)
	if hex.EncodeToString(b) != "46534e50010100010000000000010001000105" || e != api.OK {
		t.Errorf("P22.1: %x, %d", b, e)
	}
	fails(t, []byte{0}, api.ErrMagic, 0, "00")
}

// TestWrittenStates: the plain states, the rich one, the greatest one.
func TestWrittenStates(t *testing.T) {
	for _, s := range append(plain(), rich(), greatest()) {
		writes(t, s)
	}
}

// TestOctets: End and Trap, every one of their kind.
func TestOctets(t *testing.T) {
	for v := math.MinInt8; v <= math.MaxInt8; v++ {
		s := rich()
		s.End = int8(v)
		if v >= 1 && v <= 3 {
			writes(t, s)
		} else {
			refuses(t, s, "End %d", v)
		}
		s = rich()
		s.Trap = int8(v)
		if v >= 0 && v <= 6 {
			writes(t, s)
		} else {
			refuses(t, s, "Trap %d", v)
		}
	}
}

// TestNumbers: Used, Replies, Function and Pc, at their bounds, one past them, and below 0; also numbers that would fit if their high bits were cut off.
func TestNumbers(t *testing.T) {
	for _, x := range []struct {
		name string
		most int64
		put  func(s *api.State, v int64)
	}{
		{"Used", mostUsed, func(s *api.State, v int64) { s.Used = v }},
		{"Replies", mostReplies, func(s *api.State, v int64) { s.Replies = int(v) }},
		{"Function of the first frame", functions - 1, func(s *api.State, v int64) { s.Frames[0].Function = int(v) }},
		{"Function of a frame between", functions - 1, func(s *api.State, v int64) { s.Frames[2].Function = int(v) }},
		{"Function of the last frame", functions - 1, func(s *api.State, v int64) { s.Frames[3].Function = int(v) }},
		{"Pc of the first frame", codes - 1, func(s *api.State, v int64) { s.Frames[0].Pc = int(v) }},
		{"Pc of a frame between", codes - 1, func(s *api.State, v int64) { s.Frames[1].Pc = int(v) }},
		{"Pc of the last frame", codes - 1, func(s *api.State, v int64) { s.Frames[3].Pc = int(v) }},
	} {
		values := []int64{0, 1, 127, 128, 129, 255, 256, 2047, 2048, 4096, 1 << 32, 1<<62 - 1, 1 << 62, 1<<62 + 1, math.MaxInt64 - 1, math.MaxInt64}
		values = append(values, x.most-1, x.most, x.most+1, -1, -2, -128, -2048, -1<<32, -1<<62, math.MinInt64, math.MinInt64+1)
		for _, v := range values {
			s := rich()
			x.put(&s, v)
			if v >= 0 && v <= x.most {
				writes(t, s)
			} else {
				refuses(t, s, "%s %d", x.name, v)
			}
		}
	}
}

// TestLengths: each list of numbers, of every length up to its bound, and of more.
func TestLengths(t *testing.T) {
	for _, x := range []struct {
		name string
		most int
		list func(s *api.State) *[]uint64
	}{
		{"Results", mostResults, func(s *api.State) *[]uint64 { return &s.Results }},
		{"Globals", most64, func(s *api.State) *[]uint64 { return &s.Globals }},
		{"Locals of the first frame", most64, func(s *api.State) *[]uint64 { return &s.Frames[0].Locals }},
		{"Locals of the last frame", most64, func(s *api.State) *[]uint64 { return &s.Frames[3].Locals }},
		{"Stack of the first frame", mostStack, func(s *api.State) *[]uint64 { return &s.Frames[0].Stack }},
		{"Stack of the last frame", mostStack, func(s *api.State) *[]uint64 { return &s.Frames[3].Stack }},
	} {
		for n := range x.most + 1 {
			s := rich()
			*x.list(&s) = some(n)
			writes(t, s)
		}
		for _, n := range []int{x.most + 1, x.most + 2, 2 * x.most, 1000, 1 << 16, 1 << 20} {
			s := rich()
			*x.list(&s) = make([]uint64, n)
			refuses(t, s, "%d %s", n, x.name)
		}
	}
}

// TestFrames: from none to as many as there may be, and more.
func TestFrames(t *testing.T) {
	many := slices.Repeat(rich().Frames, 40)
	for n := range most64 + 1 {
		s := rich()
		s.Frames = many[:n]
		writes(t, s)
	}
	for _, n := range []int{65, 66, 127, 128, 160} {
		s := rich()
		s.Frames = many[:n]
		refuses(t, s, "%d frames", n)
	}
}

// TestPages: from none to as many as there may be, and more, of noughts, full, and by turns.
func TestPages(t *testing.T) {
	full := bytes.Repeat([]byte{1}, size)
	for _, turn := range [][][]byte{{blank()}, {full}, {blank(), full}, {full, blank(), blank()}} {
		many := slices.Repeat(turn, 200)
		for n := range most64 + 1 {
			s := rich()
			s.Pages = many[:n]
			writes(t, s)
		}
		for _, n := range []int{65, 66, 127, 128, 200} {
			s := rich()
			s.Pages = many[:n]
			refuses(t, s, "%d pages", n)
		}
	}
}

// TestPageLengths: one page among others, of too few bytes or too many, of noughts or not.
func TestPageLengths(t *testing.T) {
	for _, pages := range []int{1, 2, 3, most64} {
		for _, k := range []int{0, pages / 2, pages - 1} {
			for _, n := range []int{0, 1, 5, 4095, 4097, 2 * size} {
				for _, v := range []byte{0, 1} {
					s := rich()
					s.Pages = slices.Repeat([][]byte{blank()}, pages)
					s.Pages[k] = bytes.Repeat([]byte{v}, n)
					refuses(t, s, "a page %d of %d of %d bytes %d", k, pages, n, v)
				}
			}
			s := rich()
			s.Pages = slices.Repeat([][]byte{page(7, 7)}, pages)
			s.Pages[k] = nil
			refuses(t, s, "a page %d of %d that is nil", k, pages)
		}
	}
}

// TestBlankPages: a page of noughts takes no byte but in the count; each other one its bytes and its number, wherever its one byte stands.
func TestBlankPages(t *testing.T) {
	for n := range most64 + 1 {
		s := api.State{End: 1, Pages: slices.Repeat([][]byte{blank()}, n)}
		if b, e := snap.Write(s); e != api.OK || string(b) != head+"\x01\x00\x00\x00\x00\x00"+string(rune(n))+"\x00\x00" {
			t.Errorf("W3: %d pages of noughts: %d, %.60x", n, e, b)
		}
	}
	for at := range size {
		s := api.State{End: 1, Pages: [][]byte{blank(), page(at, byte(1+at%255)), blank()}}
		if b, e := snap.Write(s); e != api.OK || len(b) != len(head)+10+size {
			t.Fatalf("W3: a byte at %d: %d, %d bytes", at, e, len(b))
		}
		writes(t, s)
	}
}

package snap_test

import (
	"bytes"
	"slices"
	"testing"

	"flagon/api"
	"flagon/snap"
)

// roomy is a list of its own with spare room that has v in it.
func roomy[T any](list []T, v T) []T {
	return append(slices.Clone(list), v, v, v)[:len(list)]
}

// whole is a list with its spare room, in memory of its own.
func whole[T any](list []T) []T {
	return slices.Clone(list[:cap(list)])
}

// spoil writes over a list, spare room too.
func spoil[T any](list []T, v T) {
	list = list[:cap(list)]
	for at := range list {
		list[at] = v
	}
}

// each: s in lists that turn makes of its own ones, the inner ones too.
func each(s api.State, values func([]uint64) []uint64, octets func([]byte) []byte, pages func([][]byte) [][]byte, frames func([]api.Frame) []api.Frame) api.State {
	s.Results, s.Globals, s.Pages, s.Frames = values(s.Results), values(s.Globals), pages(s.Pages), frames(s.Frames)
	for k := range s.Pages {
		s.Pages[k] = octets(s.Pages[k])
	}
	for k := range s.Frames {
		s.Frames[k].Locals, s.Frames[k].Stack = values(s.Frames[k].Locals), values(s.Frames[k].Stack)
	}
	return s
}

// roomyState is the same state in memory of its own, in lists that have spare room.
func roomyState(s api.State) api.State {
	return each(s,
		func(l []uint64) []uint64 { return roomy(l, 77) },
		func(l []byte) []byte { return roomy(l, 77) },
		func(l [][]byte) [][]byte { return roomy(l, []byte{77}) },
		func(l []api.Frame) []api.Frame { return roomy(l, api.Frame{Function: 77}) })
}

// wholeState is a state with all spare room, in memory of its own.
func wholeState(s api.State) api.State {
	return each(s, whole[uint64], whole[byte], whole[[]byte], whole[api.Frame])
}

// numbers: the lists of numbers of a state.
func numbers(s *api.State) []*[]uint64 {
	out := []*[]uint64{&s.Results, &s.Globals}
	for at := range s.Frames {
		out = append(out, &s.Frames[at].Locals, &s.Frames[at].Stack)
	}
	return out
}

// spoilState writes over all lists of a state, the inner ones first.
func spoilState(s api.State) {
	for _, p := range s.Pages {
		spoil(p, 99)
	}
	for _, list := range numbers(&s) {
		spoil(*list, 99)
	}
	spoil(s.Pages, []byte{99})
	spoil(s.Frames, api.Frame{Function: 99, Stack: []uint64{99}})
}

func states() []api.State {
	return append(plain(), rich(), greatest())
}

func read(t *testing.T, b []byte) api.State {
	t.Helper()
	s, e, at := snap.Read(b)
	if e != api.OK {
		t.Fatalf("P22.2: Read of %.60x: %d at %d", b, e, at)
	}
	return s
}

// TestStateHanded: Write does not change what it is handed, nor see its spare room; nor what it refuses.
func TestStateHanded(t *testing.T) {
	for _, plain := range states() {
		s := roomyState(plain)
		before := wholeState(s)
		b, e := snap.Write(s)
		if e != api.OK || !bytes.Equal(b, raw(plain)) {
			t.Fatalf("R5: Write sees spare room: %d, %.60x", e, b)
		}
		spoil(b, 99)
		bad := s
		bad.Used = -1
		refuses(t, bad, "Used -1")
		bad = s
		bad.Results = make([]uint64, 9)
		refuses(t, bad, "nine results")
		if !identical(wholeState(s), before) {
			t.Fatalf("R5: Write changes what it is handed: %s", told(s))
		}
	}
}

// TestBytesAnswered: what Write answers stays, whatever becomes of the state and of other answers.
func TestBytesAnswered(t *testing.T) {
	for _, plain := range states() {
		s := roomyState(plain)
		first, _ := snap.Write(s)
		second, _ := snap.Write(s)
		spoil(first, 99)
		spoilState(s)
		if !bytes.Equal(second, raw(plain)) {
			t.Fatalf("R5: what Write answers shares memory with what was handed in, or with another answer: %.60x", second)
		}
		third, _ := snap.Write(plain)
		if !bytes.Equal(third, raw(plain)) {
			t.Fatalf("R6: an answer of Write hangs on an earlier one: %.60x", third)
		}
	}
}

// TestBytesHanded: Read does not change what it is handed, nor see its spare room; nor what it refuses.
func TestBytesHanded(t *testing.T) {
	for _, plain := range states() {
		b := roomy(raw(plain), 0)
		before := whole(b)
		s := read(t, b)
		if !identical(s, plain) {
			t.Fatalf("R5: Read sees spare room: %s", told(s))
		}
		spoilState(s)
		fails(t, b[:len(b)-1], api.ErrEnd, lastPlace(plain), "bytes that are cut off within their spare room")
		if !bytes.Equal(whole(b), before) {
			t.Fatalf("R5: Read changes what it is handed: %s", told(plain))
		}
	}
}

// lastPlace: where the last piece begins.
func lastPlace(s api.State) int {
	at := starts(pieces(s))
	return at[len(at)-2]
}

// TestStateAnswered: what Read answers stays, whatever becomes of the bytes and of other answers.
func TestStateAnswered(t *testing.T) {
	for _, plain := range states() {
		b := roomy(raw(plain), 0)
		first, second := read(t, b), read(t, b)
		spoilState(first)
		spoil(b, 99)
		if !identical(second, plain) {
			t.Fatalf("R5: what Read answers shares memory with what was handed in, or with another answer: %s", told(second))
		}
		if third := read(t, raw(plain)); !identical(third, plain) {
			t.Fatalf("R6: an answer of Read hangs on an earlier one: %s", told(third))
		}
	}
}

// TestListsAlone: no two lists of numbers of an answer share memory, spare room neither.
func TestListsAlone(t *testing.T) {
	for _, plain := range states() {
		s := read(t, raw(plain))
		for at, list := range numbers(&s) {
			kept := slices.Clone(*list)
			spoil(*list, 99)
			long := append(*list, 99, 99)
			*list = kept
			if len(long) != len(kept)+2 || !identical(s, plain) {
				t.Fatalf("R5: the list %d shares memory with another one: %s", at, told(plain))
			}
		}
		var long [][]uint64
		for at, list := range numbers(&s) {
			long = append(long, append(*list, uint64(1000+at)))
		}
		for at, list := range long {
			if list[len(list)-1] != uint64(1000+at) {
				t.Fatalf("R5: the spare room of the list %d is another one's, too: %s", at, told(s))
			}
		}
	}
}

// TestPagesAlone: no page of an answer reaches into another one, not by its spare room either.
func TestPagesAlone(t *testing.T) {
	for _, plain := range states() {
		s := read(t, raw(plain))
		for k := range s.Pages {
			spoil(s.Pages[k], 99)
			s.Pages[k] = bytes.Clone(plain.Pages[k])
			if !identical(s, plain) {
				t.Fatalf("R5: the page %d shares memory with another list: %s", k, told(s))
			}
		}
		s = read(t, raw(plain))
		for k := range s.Pages {
			if long := append(s.Pages[k], bytes.Repeat([]byte{99}, 2*size)...); len(long) != 3*size || !identical(s, plain) {
				t.Fatalf("R5: what is put behind the page %d lies in another one: %s", k, told(s))
			}
		}
		_ = append(s.Pages, []byte{99})
		_ = append(s.Frames, api.Frame{Function: 99})
		if !identical(s, plain) {
			t.Fatalf("R5: a list of an answer has its spare room in another one: %s", told(s))
		}
	}
}

// TestShared: a state whose lists share memory is told as any other one.
func TestShared(t *testing.T) {
	values, p := some(9), page(9, 9)
	s := api.State{End: 1, Results: values[:3], Globals: values, Pages: [][]byte{p, p, p}}
	s.Frames = []api.Frame{{Locals: values[1:4], Stack: values[2:]}, {Locals: values, Stack: values}}
	writes(t, s)
	got := read(t, raw(s))
	got.Pages[0][9], got.Frames[0].Locals[0] = 1, 1
	if got.Pages[1][9] != 9 || got.Pages[2][9] != 9 || p[9] != 9 || got.Frames[1].Locals[1] != values[1] {
		t.Errorf("R5: lists that were one are one again")
	}
}

package resume_test

import (
	"bytes"
	"math/rand"
	"slices"
	"testing"

	"flagon/api"
	"flagon/resume"
)

// roomy is a list of its own with spare room that has v in it.
func roomy[T any](list []T, v T) []T {
	return append(slices.Clone(list), v, v, v)[:len(list)]
}

// whole is a list with its spare room, in memory of its own.
func whole[T any](list []T) []T {
	return slices.Clone(list[:cap(list)])
}

// spoil writes over a list, spare room too.
func spoil[T any](list []T, v T) {
	list = list[:cap(list)]
	for at := range list {
		list[at] = v
	}
}

// roomyModule is the same module in memory of its own, in lists that have spare room.
func roomyModule(m api.Module) api.Module {
	m.Types, m.Hosts, m.Globals = roomy(m.Types, api.Sig{Params: "77"}), roomy(m.Hosts, 77), roomy(m.Globals, api.Global{Letter: 77, Value: 77})
	m.Functions, m.Data, m.Exports = roomy(m.Functions, api.Function{Type: 77}), roomy(m.Data, api.Data{At: 77, B: []byte{77}}), roomy(m.Exports, api.Export{Name: "77"})
	for i := range m.Functions {
		code := roomy(m.Functions[i].Code, api.Ins{Op: 0x77})
		for pc := range code {
			code[pc].L = roomy(code[pc].L, 77)
		}
		m.Functions[i].Code = code
	}
	for i := range m.Data {
		m.Data[i].B = roomy(m.Data[i].B, 77)
	}
	return m
}

// wholeModule is a module with all spare room, in memory of its own.
func wholeModule(m api.Module) api.Module {
	m.Types, m.Hosts, m.Globals, m.Functions, m.Data, m.Exports = whole(m.Types), whole(m.Hosts), whole(m.Globals), whole(m.Functions), whole(m.Data), whole(m.Exports)
	for i := range m.Functions {
		code := whole(m.Functions[i].Code)
		for pc := range code {
			code[pc].L = whole(code[pc].L)
		}
		m.Functions[i].Code = code
	}
	for i := range m.Data {
		m.Data[i].B = whole(m.Data[i].B)
	}
	return m
}

// spoilModule writes over all lists of a module, the inner ones first.
func spoilModule(m api.Module) {
	for _, f := range m.Functions {
		spoil(f.Code, api.Ins{Op: 0x99})
	}
	for _, d := range m.Data {
		spoil(d.B, 99)
	}
	spoil(m.Types, api.Sig{Params: "99"})
	spoil(m.Hosts, 99)
	spoil(m.Globals, api.Global{Letter: 99, Value: 99})
	spoil(m.Functions, api.Function{Type: 99})
	spoil(m.Data, api.Data{At: 99})
	spoil(m.Exports, api.Export{Name: "99"})
}

func sameIns(a, b api.Ins) bool {
	return a.Op == b.Op && a.A == b.A && slices.Equal(a.L, b.L)
}

func sameFunction(a, b api.Function) bool {
	return a.Type == b.Type && a.Locals == b.Locals && slices.EqualFunc(a.Code, b.Code, sameIns)
}

func sameData(a, b api.Data) bool {
	return a.At == b.At && bytes.Equal(a.B, b.B)
}

func sameModule(a, b api.Module) bool {
	return slices.Equal(a.Types, b.Types) && slices.Equal(a.Hosts, b.Hosts) && slices.Equal(a.Globals, b.Globals) && a.First == b.First && a.Most == b.Most &&
		slices.EqualFunc(a.Functions, b.Functions, sameFunction) && slices.EqualFunc(a.Data, b.Data, sameData) && slices.Equal(a.Exports, b.Exports)
}

// each: s in lists that are made of its own ones, the inner ones too.
func each(s api.State, values func([]uint64) []uint64, octets func([]byte) []byte, pages func([][]byte) [][]byte, frames func([]api.Frame) []api.Frame) api.State {
	s.Results, s.Globals, s.Pages, s.Frames = values(s.Results), values(s.Globals), pages(s.Pages), frames(s.Frames)
	for k := range s.Pages {
		s.Pages[k] = octets(s.Pages[k])
	}
	for k := range s.Frames {
		s.Frames[k].Locals, s.Frames[k].Stack = values(s.Frames[k].Locals), values(s.Frames[k].Stack)
	}
	return s
}

// roomyState is the same state in memory of its own, in lists that have spare room.
func roomyState(s api.State) api.State {
	return each(s,
		func(l []uint64) []uint64 { return roomy(l, 77) },
		func(l []byte) []byte { return roomy(l, 77) },
		func(l [][]byte) [][]byte { return roomy(l, []byte{77}) },
		func(l []api.Frame) []api.Frame { return roomy(l, api.Frame{Function: 77}) })
}

// wholeState is a state with all spare room, in memory of its own.
func wholeState(s api.State) api.State {
	return each(s, whole[uint64], whole[byte], whole[[]byte], whole[api.Frame])
}

// numbers: the lists of numbers of a state.
func numbers(s *api.State) []*[]uint64 {
	out := []*[]uint64{&s.Results, &s.Globals}
	for at := range s.Frames {
		out = append(out, &s.Frames[at].Locals, &s.Frames[at].Stack)
	}
	return out
}

// spoilState writes over all lists of a state, the inner ones first.
func spoilState(s api.State) {
	for _, p := range s.Pages {
		spoil(p, 99)
	}
	for _, list := range numbers(&s) {
		spoil(*list, 99)
	}
	spoil(s.Pages, []byte{99})
	spoil(s.Frames, api.Frame{Function: 99, Stack: []uint64{99}})
}

// held is a state, and a module of which it may be one.
type held struct {
	m api.Module
	s api.State
}

func helds(t *testing.T) []held {
	t.Helper()
	list := []held{{five(t), begun()}, {rich(t), turned(deep(), func(s *api.State) { s.Frames = tower(most64) })}}
	for _, s := range ends() {
		list = append(list, held{rich(t), s})
	}
	r := rand.New(rand.NewSource(236))
	for _, m := range programs(t) {
		for range 12 {
			list = append(list, held{m, drawnState(r, m)})
		}
	}
	return list
}

func read(t *testing.T, m api.Module, b []byte) api.State {
	t.Helper()
	s, e, at := resume.Read(m, b)
	if e != api.OK {
		t.Fatalf("P23.1: Read of %.60x: %d at %d", b, e, at)
	}
	return s
}

// TestHandedWrite: Write does not change what it is handed, nor see its spare room; nor what it refuses.
func TestHandedWrite(t *testing.T) {
	for _, x := range helds(t) {
		m, s := roomyModule(x.m), roomyState(x.s)
		module, state := wholeModule(m), wholeState(s)
		b, e := resume.Write(m, s)
		if e != api.OK || !bytes.Equal(b, raw(x.s)) {
			t.Fatalf("R5: Write sees spare room: %d, %.60x", e, b)
		}
		spoil(b, 99)
		for _, change := range []func(s *api.State){func(s *api.State) { s.Used = -1 }, func(s *api.State) { s.Globals = make([]uint64, 65) }, func(s *api.State) { s.Trap = 7 }} {
			bad := s
			change(&bad)
			untold(t, m, bad, api.ErrState, "a state that may not be")
		}
		none := m
		none.Most = 65
		untold(t, none, s, api.ErrRange, "a state of a module that may not run")
		if !sameModule(wholeModule(m), module) || !identical(wholeState(s), state) {
			t.Fatalf("R5: Write changes what it is handed: %s", told(s))
		}
	}
}

// TestHandedRead: Read does not change what it is handed, nor see its spare room; nor what it refuses.
func TestHandedRead(t *testing.T) {
	for _, x := range helds(t) {
		m, b := roomyModule(x.m), roomy(raw(x.s), 0)
		module, before := wholeModule(m), whole(b)
		s := read(t, m, b)
		if !identical(s, x.s) {
			t.Fatalf("R5: Read sees spare room: %s", told(s))
		}
		spoilState(s)
		for n := range min(40, len(b)) {
			if _, e, _ := resume.Read(m, b[:n]); e == api.OK {
				t.Fatalf("P23.1: Read of the first %d bytes is OK", n)
			}
		}
		none := m
		none.Most = 65
		refused(t, none, b, api.ErrRange, 0, "bytes with a module that may not run")
		if !sameModule(wholeModule(m), module) || !bytes.Equal(whole(b), before) {
			t.Fatalf("R5: Read changes what it is handed: %s", told(x.s))
		}
	}
}

// TestAnswered: what is answered stays, whatever becomes of what was handed in and of other answers.
func TestAnswered(t *testing.T) {
	for _, x := range helds(t) {
		m, s, b := roomyModule(x.m), roomyState(x.s), roomy(raw(x.s), 0)
		firstState, state := read(t, m, b), read(t, m, b)
		firstBytes, _ := resume.Write(m, s)
		octets, _ := resume.Write(m, s)
		spoilState(firstState)
		spoil(firstBytes, 99)
		spoilModule(m)
		spoilState(s)
		spoil(b, 99)
		if !identical(state, x.s) {
			t.Fatalf("R5: what Read answers shares memory with what was handed in, or with another answer: %s", told(state))
		}
		if !bytes.Equal(octets, raw(x.s)) {
			t.Fatalf("R5: what Write answers shares memory with what was handed in, or with another answer: %.60x", octets)
		}
		both(t, x.m, x.s)
	}
}

// TestAgain: an answer hangs on nothing that was asked ahead, not on errors either.
func TestAgain(t *testing.T) {
	list := helds(t)
	for at, x := range list {
		other := list[(at*7+3)%len(list)]
		resume.Read(other.m, raw(x.s))
		resume.Write(other.m, x.s)
		resume.Read(x.m, raw(x.s)[:9])
		resume.Write(x.m, api.State{})
		both(t, x.m, x.s)
	}
}

// TestListsAlone: no two lists of a state that is answered share memory, spare room neither.
func TestListsAlone(t *testing.T) {
	for _, x := range helds(t) {
		s := read(t, x.m, raw(x.s))
		for at, list := range numbers(&s) {
			kept := slices.Clone(*list)
			spoil(*list, 99)
			long := append(*list, 99, 99)
			*list = kept
			if len(long) != len(kept)+2 || !identical(s, x.s) {
				t.Fatalf("R5: the list %d shares memory with another one: %s", at, told(x.s))
			}
		}
		for k := range s.Pages {
			long := append(s.Pages[k], bytes.Repeat([]byte{99}, 2*size)...)
			kept := bytes.Clone(s.Pages[k])
			spoil(s.Pages[k], 99)
			s.Pages[k] = kept
			if len(long) != 3*size || !identical(s, x.s) {
				t.Fatalf("R5: the page %d shares memory with another list: %s", k, told(s))
			}
		}
		_ = append(s.Pages, []byte{99})
		_ = append(s.Frames, api.Frame{Function: 99})
		if !identical(s, x.s) {
			t.Fatalf("R5: a list of an answer has its spare room in another one: %s", told(s))
		}
	}
}

package session_test

import (
	"bytes"
	"slices"
	"testing"

	"flagon/api"
	"flagon/session"
)

// roomy is a list of its own with spare room that has v in it.
func roomy[T any](list []T, v T) []T {
	return append(slices.Clone(list), v, v, v)[:len(list)]
}

// whole is a list with its spare room, in memory of its own.
func whole[T any](list []T) []T {
	return slices.Clone(list[:cap(list)])
}

// spoil writes over a list, spare room too.
func spoil[T any](list []T, v T) {
	list = list[:cap(list)]
	for at := range list {
		list[at] = v
	}
}

// lists: those of numbers in a state.
func lists(s *api.State) []*[]uint64 {
	out := []*[]uint64{&s.Results, &s.Globals}
	for at := range s.Frames {
		out = append(out, &s.Frames[at].Locals, &s.Frames[at].Stack)
	}
	return out
}

// spoilState writes over all lists of a state, the inner ones first.
func spoilState(s api.State) {
	for _, p := range s.Pages {
		spoil(p, 99)
	}
	for _, list := range lists(&s) {
		spoil(*list, 99)
	}
	spoil(s.Pages, []byte{99})
	spoil(s.Frames, api.Frame{Function: 99, Stack: []uint64{99}})
}

// roomyScript is the same script, in lists that have spare room.
func roomyScript(script []api.Reply) []api.Reply {
	script = roomy(script, api.Reply{Results: []uint64{77}, Trap: true})
	for at := range script {
		script[at].Results = roomy(script[at].Results, 77)
	}
	return script
}

// wholeScript is a script with all spare room, in memory of its own.
func wholeScript(script []api.Reply) []api.Reply {
	script = whole(script)
	for at := range script {
		script[at].Results = whole(script[at].Results)
	}
	return script
}

func sameScript(a, b []api.Reply) bool {
	return slices.EqualFunc(a, b, func(x, y api.Reply) bool { return x.Trap == y.Trap && slices.Equal(x.Results, y.Results) })
}

// spoilScript writes over a script, the lists in it first.
func spoilScript(script []api.Reply) {
	for _, reply := range script {
		spoil(reply.Results, 99)
	}
	spoil(script, api.Reply{Results: []uint64{99}})
}

// all are runs to be asked of, one whose module has data, exports and a brtable too.
func all() []small {
	m := paged(1, 2, "w>w", "", "block:> block:> get:0 brtable:0,1 end w.const:5 return end w.const:6 end")
	m.Data = []api.Data{{At: 3, B: []byte{1, 2}}, {At: 9, B: []byte{4}}}
	return append(runs(), small{named(m), nil, begun(m, 0), 7}, small{named(m), nil, begun(m, 9), 6})
}

// goesAlong runs a session by thirty short runs: what it tells behind each of them.
func goesAlong(s *session.Session) []told {
	list := []told{tells(s)}
	for n := range 30 {
		s.Run(int8(n%2), int64(n%4))
		list = append(list, tells(s))
	}
	return list
}

// TestHanded: what is handed in is not changed, nor its spare room, whatever is called and whatever is done to the answers.
func TestHanded(t *testing.T) {
	for _, x := range all() {
		b, saved, script := roomy(octets(t, x.m), 77), roomy(raw(x.s), 77), roomyScript(x.script)
		bytesThen, savedThen, scriptThen := whole(b), whole(saved), wholeScript(script)
		args := roomy([]uint64{1, 2, 3}, 77)
		argsThen := whole(args)
		for range 2 {
			s := fresh(t)
			loads(t, s, b)
			scripts(t, s, script...)
			s.Begin("f0", args[:1])
			s.Begin("f0", args)
			restores(t, s, saved)
			for _, x := range goesAlong(s) {
				spoil(x.bytes, 99)
				spoil(x.saved, 99)
				spoilState(x.state)
			}
			goesAlong(s)
			s.Load(b[:len(b)-1])
			s.Restore(saved[:len(saved)-1])
		}
		if !bytes.Equal(whole(b), bytesThen) || !bytes.Equal(whole(saved), savedThen) || !sameScript(wholeScript(script), scriptThen) || !slices.Equal(whole(args), argsThen) {
			t.Fatalf("R5: what is handed in is changed: %s", show(x.s))
		}
	}
}

// TestHandedLater: a session keeps nothing of what was handed in: it goes on whatever becomes of that.
func TestHandedLater(t *testing.T) {
	for _, x := range all() {
		want := goesAlong(open(t, x))
		b, saved, script := roomy(octets(t, x.m), 77), roomy(raw(x.s), 77), roomyScript(x.script)
		s := fresh(t)
		loads(t, s, b)
		spoil(b, 99)
		if e := s.Script(script); e != api.OK {
			t.Fatalf("P29.3: %d", e)
		}
		spoilScript(script)
		restores(t, s, saved)
		spoil(saved, 99)
		if got := goesAlong(s); !slices.EqualFunc(got, want, told.same) {
			t.Fatalf("R5: a session shares memory with what was handed in: %s", code(x.m, 0))
		}
	}
}

// TestArguments: those of Begin are not kept either.
func TestArguments(t *testing.T) {
	m := named(of("wl>lw", "w", "get:1 get:0 end"))
	s := fresh(t)
	loads(t, s, octets(t, m))
	args := roomy([]uint64{7, 8}, 77)
	begins(t, s, "f0", args...)
	spoil(args, 99)
	stands(t, s, "suspended used 0 frame 0 at 0 locals 7 8 0 stack")
	goes(t, s, byFast, 9)
	stands(t, s, "halted used 3 results 8 7")
	other := []uint64{5, 6, 4}
	begins(t, s, "f0", other[:2]...)
	goes(t, s, bySlow, 2)
	if !slices.Equal(other, []uint64{5, 6, 4}) {
		t.Errorf("R5: the arguments are %d", other)
	}
	stands(t, s, "suspended used 2 frame 0 at 2 locals 5 6 0 stack 6 5")
}

// TestSpoilt: a session shares no memory with what it answers, spare room neither, and no two answers share any.
func TestSpoilt(t *testing.T) {
	for _, x := range all() {
		s, other := open(t, x), open(t, x)
		for n := range 30 {
			first, second, want := tells(s), tells(s), tells(other)
			spoil(first.bytes, 99)
			spoil(first.saved, 99)
			spoilState(first.state)
			if !second.same(want) || !tells(s).same(want) {
				t.Fatalf("R5: an answer shares memory: %s, of %s", code(x.m, 0), show(want.state))
			}
			s.Run(int8(n%2), int64(n%3))
			other.Run(int8(n%2), int64(n%3))
			if !second.same(want) {
				t.Fatalf("R5: an answer is changed later: %s", show(want.state))
			}
		}
	}
}

// TestBegunAlone: two beginnings, and two restored states, of the same session and bytes know nothing of each other.
func TestBegunAlone(t *testing.T) {
	m := paged(1, 2, ">", "", "w.const:0 l.const:-1 l.store:0 w.const:1 gset:0 end")
	m.Globals = []api.Global{{Letter: 'w', Mutable: true, Value: 3}}
	m.Data = []api.Data{{B: []byte{1}}}
	m = named(m)
	s := fresh(t)
	loads(t, s, octets(t, m))
	const first, last = "suspended used 0 frame 0 at 0 locals stack globals 3 pages 1 1", "halted used 6 results globals 1 pages 1 8"
	begins(t, s, "f0")
	saved := saves(t, s)
	for range 3 {
		begins(t, s, "f0")
		stands(t, s, first)
		goes(t, s, byFast, 99)
		restores(t, s, saved)
		stands(t, s, first)
		goes(t, s, bySlow, 99)
		stands(t, s, last)
	}
}

// TestAlone: no two lists of a state that is told share memory, spare room neither.
func TestAlone(t *testing.T) {
	for _, x := range append(all(), small{rich(), nil, ended(halted), 0}) {
		s := open(t, x)
		for n := range 6 {
			want := state(t, s)
			for at := range lists(&want) {
				got := state(t, s)
				spoil(*lists(&got)[at], 99)
				*lists(&got)[at] = slices.Clone(*lists(&want)[at])
				if !identical(got, want) {
					t.Fatalf("R5: the list %d of an answer shares memory with another one: %s", at, show(want))
				}
			}
			for at := range want.Pages {
				got := state(t, s)
				spoil(got.Pages[at], 99)
				got.Pages[at] = slices.Clone(want.Pages[at])
				if !identical(got, want) {
					t.Fatalf("R5: the page %d of an answer shares memory with another one: %s", at, show(want))
				}
			}
			grown(t, state(t, s))
			s.Run(int8(n%2), int64(n))
		}
	}
}

// grown: what is put behind one list of a state is not seen behind another one.
func grown(t *testing.T, s api.State) {
	t.Helper()
	var long [][]uint64
	for at, list := range lists(&s) {
		long = append(long, append(*list, uint64(1000+at)))
	}
	for at, list := range long {
		if list[len(list)-1] != uint64(1000+at) {
			t.Fatalf("R5: the spare room of the list %d is another one's, too: %s", at, show(s))
		}
	}
	var pages [][]byte
	for at, p := range s.Pages {
		pages = append(pages, append(p, byte(at+1)))
	}
	for at, p := range pages {
		if p[size] != byte(at+1) {
			t.Fatalf("R5: the spare room of the page %d is another one's, too", at)
		}
	}
}

// TestEmpty: a list that is nil and one without elements are the same.
func TestEmpty(t *testing.T) {
	m := named(of(">w", "", "w.const:5 end"))
	one, other := fresh(t), fresh(t)
	loads(t, one, octets(t, m))
	loads(t, other, octets(t, m))
	if one.Script(nil) != api.OK || other.Script([]api.Reply{}) != api.OK || one.Begin("f0", nil) != api.OK || other.Begin("f0", []uint64{}) != api.OK {
		t.Error("R4: an error")
	}
	if !slices.EqualFunc(goesAlong(one), goesAlong(other), told.same) {
		t.Error("R4: of empty lists other answers")
	}
	for _, s := range []*session.Session{one, fresh(t)} {
		e, at, pc := s.Load(nil)
		if e2, at2, pc2 := s.Load([]byte{}); e != e2 || at != at2 || pc != pc2 {
			t.Error("R4: Load")
		}
		e, at = s.Restore(nil)
		if e2, at2 := s.Restore([]byte{}); e != e2 || at != at2 {
			t.Error("R4: Restore")
		}
	}
}

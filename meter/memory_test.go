package meter_test

import (
	"math/rand"
	"slices"
	"testing"

	"flagon/api"
	"flagon/meter"
)

// roomy is a list of its own with spare room that has v in it.
func roomy[T any](list []T, v T) []T {
	return append(slices.Clone(list), v, v, v)[:len(list)]
}

// whole is a list with its spare room, in memory of its own.
func whole[T any](list []T) []T {
	return slices.Clone(list[:cap(list)])
}

// spoil writes over a list, spare room too.
func spoil[T any](list []T, v T) {
	list = list[:cap(list)]
	for at := range list {
		list[at] = v
	}
}

// lists: those of numbers in a state.
func lists(s *api.State) []*[]uint64 {
	out := []*[]uint64{&s.Results, &s.Globals}
	for at := range s.Frames {
		out = append(out, &s.Frames[at].Locals, &s.Frames[at].Stack)
	}
	return out
}

// roomyState is the same state, in lists that have spare room.
func roomyState(s api.State) api.State {
	s.Pages, s.Frames = roomy(s.Pages, []byte{77}), roomy(s.Frames, api.Frame{Pc: 77, Stack: []uint64{77}})
	for at := range s.Pages {
		s.Pages[at] = roomy(s.Pages[at], 77)
	}
	for _, list := range lists(&s) {
		*list = roomy(*list, 77)
	}
	return s
}

// wholeState is a state with all spare room, in memory of its own.
func wholeState(s api.State) api.State {
	s.Pages, s.Frames = whole(s.Pages), whole(s.Frames)
	for at := range s.Pages {
		s.Pages[at] = whole(s.Pages[at])
	}
	for _, list := range lists(&s) {
		*list = whole(*list)
	}
	return s
}

// spoilState writes over all lists of a state, the inner ones first.
func spoilState(s api.State) {
	for _, p := range s.Pages {
		spoil(p, 99)
	}
	for _, list := range lists(&s) {
		spoil(*list, 99)
	}
	spoil(s.Pages, []byte{99})
	spoil(s.Frames, api.Frame{Function: 99, Stack: []uint64{99}})
}

// roomyModule is the same module, in lists that have spare room.
func roomyModule(m api.Module) api.Module {
	m.Types, m.Hosts, m.Globals, m.Functions = roomy(m.Types, api.Sig{Params: "77"}), roomy(m.Hosts, 77), roomy(m.Globals, api.Global{Letter: 77}), roomy(m.Functions, api.Function{Type: 77})
	for at := range m.Functions {
		code := roomy(m.Functions[at].Code, api.Ins{Op: 0x77})
		for pc := range code {
			code[pc].L = roomy(code[pc].L, 77)
		}
		m.Functions[at].Code = code
	}
	return m
}

// wholeModule is a module with all spare room, in memory of its own.
func wholeModule(m api.Module) api.Module {
	m.Types, m.Hosts, m.Globals, m.Functions = whole(m.Types), whole(m.Hosts), whole(m.Globals), whole(m.Functions)
	for at := range m.Functions {
		code := whole(m.Functions[at].Code)
		for pc := range code {
			code[pc].L = whole(code[pc].L)
		}
		m.Functions[at].Code = code
	}
	return m
}

func sameIns(a, b api.Ins) bool {
	return a.Op == b.Op && a.A == b.A && slices.Equal(a.L, b.L)
}

func sameFunction(a, b api.Function) bool {
	return a.Type == b.Type && a.Locals == b.Locals && slices.EqualFunc(a.Code, b.Code, sameIns)
}

func sameModule(a, b api.Module) bool {
	return slices.Equal(a.Types, b.Types) && slices.Equal(a.Hosts, b.Hosts) && slices.Equal(a.Globals, b.Globals) && a.First == b.First && a.Most == b.Most && slices.EqualFunc(a.Functions, b.Functions, sameFunction)
}

// roomyScript is the same script, in lists that have spare room.
func roomyScript(script []api.Reply) []api.Reply {
	script = roomy(script, api.Reply{Results: []uint64{77}, Trap: true})
	for at := range script {
		script[at].Results = roomy(script[at].Results, 77)
	}
	return script
}

// wholeScript is a script with all spare room, in memory of its own.
func wholeScript(script []api.Reply) []api.Reply {
	script = whole(script)
	for at := range script {
		script[at].Results = whole(script[at].Results)
	}
	return script
}

func sameScript(a, b []api.Reply) bool {
	return slices.EqualFunc(a, b, func(x, y api.Reply) bool { return x.Trap == y.Trap && slices.Equal(x.Results, y.Results) })
}

// spoilScript writes over a script, the lists in it first.
func spoilScript(script []api.Reply) {
	for _, reply := range script {
		spoil(reply.Results, 99)
	}
	spoil(script, api.Reply{Results: []uint64{99}})
}

// handed are runs to be asked of: the small ones, and such that are drawn.
func handed() []small {
	r := rand.New(rand.NewSource(194))
	list := append(smalls(), small{rich(), nil, ended(halted), 0}, small{rich(), nil, ended(trapped), 0})
	for range 80 {
		m := drawnModule(r)
		list = append(list, small{m, drawnScript(r, m), drawnState(r, m), 12})
	}
	return list
}

// answer: the state alone, zero where the run is refused.
func answer(engine int8, m api.Module, script []api.Reply, s api.State, fuel int) api.State {
	got, _, _ := meter.Run(engine, m, script, s, int64(fuel))
	return got
}

// answers: those of either engine, of each fuel.
func answers(m api.Module, script []api.Reply, s api.State, steps int) []api.State {
	var list []api.State
	for _, engine := range both() {
		for fuel := range steps + 2 {
			list = append(list, answer(engine, m, script, s, fuel))
		}
	}
	return list
}

// TestHanded: what is handed in is not changed, nor its spare room, whatever is called and whatever is done to the answers.
func TestHanded(t *testing.T) {
	for _, x := range handed() {
		m, script, s := roomyModule(x.m), roomyScript(x.script), roomyState(x.s)
		module, replies, state := wholeModule(m), wholeScript(script), wholeState(s)
		for _, got := range answers(m, script, s, x.steps) {
			spoilState(got)
		}
		for engine := int8(-1); engine <= 2; engine++ {
			answer(engine, m, script, s, -1)
			answer(engine, m, script, s, 1)
		}
		if !sameModule(wholeModule(m), module) || !sameScript(wholeScript(script), replies) || !identical(wholeState(s), state) {
			t.Fatalf("R5: what is handed in is changed: %s", show(x.s))
		}
	}
}

// TestAnswered: what is answered stays, whatever becomes of what was handed in.
func TestAnswered(t *testing.T) {
	for _, x := range handed() {
		m, script, s := roomyModule(x.m), roomyScript(x.script), roomyState(x.s)
		want := answers(x.m, x.script, x.s, x.steps)
		got := answers(m, script, s, x.steps)
		spoilState(s)
		spoilScript(script)
		if !slices.EqualFunc(got, want, identical) {
			t.Fatalf("R5: an answer shares memory with what was handed in: %s", show(x.s))
		}
	}
}

// TestAlone: no two lists of an answer share memory, spare room neither.
func TestAlone(t *testing.T) {
	t.Parallel()
	for _, x := range handed() {
		for n := range 2 * (x.steps + 1) {
			engine, fuel := both()[n%2], n/2
			want := answer(engine, x.m, x.script, x.s, fuel)
			for at := range lists(&want) {
				got := answer(engine, x.m, x.script, x.s, fuel)
				spoil(*lists(&got)[at], 99)
				*lists(&got)[at] = slices.Clone(*lists(&want)[at])
				if !identical(got, want) {
					t.Fatalf("R5: the list %d of an answer shares memory with another one: %s", at, show(want))
				}
			}
			grown(t, want)
		}
	}
}

// grown: what is put behind one list of a state is not seen behind another one.
func grown(t *testing.T, s api.State) {
	t.Helper()
	var long [][]uint64
	for at, list := range lists(&s) {
		long = append(long, append(*list, uint64(1000+at)))
	}
	for at, list := range long {
		if list[len(list)-1] != uint64(1000+at) {
			t.Fatalf("R5: the spare room of the list %d is another one's, too: %s", at, show(s))
		}
	}
	var pages [][]byte
	for at, p := range s.Pages {
		pages = append(pages, append(p, byte(at+1)))
	}
	for at, p := range pages {
		if p[size] != byte(at+1) {
			t.Fatalf("R5: the spare room of the page %d is another one's, too", at)
		}
	}
}

// TestPagesAlone: each page of an answer is memory of its own, even where those that were handed in share theirs.
func TestPagesAlone(t *testing.T) {
	m := paged(3, 5, ">", "", "w.const:1 grow drop w.const:5 w.const:6 w.store8 end")
	s := begun(m)
	s.Pages[1], s.Pages[2] = s.Pages[0], s.Pages[0]
	for n := range 16 {
		engine, fuel := both()[n%2], n/2
		want := answer(engine, m, nil, s, fuel)
		if fuel > 5 && (want.Pages[0][5] != 6 || want.Pages[1][5] != 0 || want.Pages[2][5] != 0) {
			t.Fatalf("P20.1: engine %d: %s", engine, show(want))
		}
		for at := range want.Pages {
			got := answer(engine, m, nil, s, fuel)
			spoil(got.Pages[at], 99)
			got.Pages[at] = slices.Clone(want.Pages[at])
			if !identical(got, want) || s.Pages[0][5] != 0 || s.Pages[0][99] != 0 {
				t.Fatalf("R5: the page %d shares memory with another one", at)
			}
		}
	}
}

// TestEmpty: a list that is nil and one without elements are the same.
func TestEmpty(t *testing.T) {
	m := of(">", "", "call:0 end")
	empty := api.State{Frames: []api.Frame{{Locals: []uint64{}, Stack: []uint64{}}}, Globals: []uint64{}, Pages: [][]byte{}, Results: []uint64{}, End: suspended}
	for n := range 140 {
		engine, fuel := both()[n%2], int64(n/2)
		a, c, e := meter.Run(engine, m, []api.Reply{}, empty, fuel)
		b, d, f := meter.Run(engine, m, nil, begun(m), fuel)
		if e != api.OK || f != api.OK || c != d || !identical(a, b) {
			t.Fatalf("R4: fuel %d: %d, %s, %s, not %d, %s, %s", fuel, e, show(a), told(c), f, show(b), told(d))
		}
	}
}

// TestApart: no two answers share memory, neither those of the same call nor one that goes on from the other, whichever engine made them.
func TestApart(t *testing.T) {
	t.Parallel()
	for _, x := range handed() {
		first, second := answers(x.m, x.script, x.s, x.steps), answers(x.m, x.script, x.s, x.steps)
		for at, s := range second {
			engine := both()[at%2]
			on := answer(engine, x.m, x.script, first[at], 3)
			again := answer(engine, x.m, x.script, first[at], 3)
			spoilState(on)
			if !identical(first[at], s) {
				t.Fatalf("R5: an answer shares memory with that from which it goes on: %s", show(s))
			}
			spoilState(first[at])
			if on := answer(engine, x.m, x.script, s, 3); !identical(on, again) {
				t.Fatalf("R5: an answer shares memory with an earlier one: %s", show(s))
			}
		}
		if !slices.EqualFunc(second, answers(x.m, x.script, x.s, x.steps), identical) {
			t.Fatalf("R5: two answers share memory: %s", show(x.s))
		}
	}
}

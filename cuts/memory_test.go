package cuts_test

import (
	"math/rand"
	"slices"
	"testing"

	"flagon/api"
	"flagon/cuts"
)

// roomy is a list of its own with spare room that has v in it.
func roomy[T any](list []T, v T) []T {
	return append(slices.Clone(list), v, v, v)[:len(list)]
}

// whole is a list with its spare room, in memory of its own.
func whole[T any](list []T) []T {
	return slices.Clone(list[:cap(list)])
}

// spoil writes over a list, spare room too.
func spoil[T any](list []T, v T) {
	list = list[:cap(list)]
	for at := range list {
		list[at] = v
	}
}

// lists: those of numbers in a state.
func lists(s *api.State) []*[]uint64 {
	out := []*[]uint64{&s.Results, &s.Globals}
	for at := range s.Frames {
		out = append(out, &s.Frames[at].Locals, &s.Frames[at].Stack)
	}
	return out
}

// roomyState is the same state, in lists that have spare room.
func roomyState(s api.State) api.State {
	s.Pages, s.Frames = roomy(s.Pages, []byte{77}), roomy(s.Frames, api.Frame{Pc: 77, Stack: []uint64{77}})
	for at := range s.Pages {
		s.Pages[at] = roomy(s.Pages[at], 77)
	}
	for _, list := range lists(&s) {
		*list = roomy(*list, 77)
	}
	return s
}

// wholeState is a state with all spare room, in memory of its own.
func wholeState(s api.State) api.State {
	s.Pages, s.Frames = whole(s.Pages), whole(s.Frames)
	for at := range s.Pages {
		s.Pages[at] = whole(s.Pages[at])
	}
	for _, list := range lists(&s) {
		*list = whole(*list)
	}
	return s
}

// spoilState writes over all lists of a state, the inner ones first.
func spoilState(s api.State) {
	for _, p := range s.Pages {
		spoil(p, 99)
	}
	for _, list := range lists(&s) {
		spoil(*list, 99)
	}
	spoil(s.Pages, []byte{99})
	spoil(s.Frames, api.Frame{Function: 99, Stack: []uint64{99}})
}

// roomyModule is the same module, in lists that have spare room.
func roomyModule(m api.Module) api.Module {
	m.Types, m.Hosts, m.Globals, m.Functions = roomy(m.Types, api.Sig{Params: "77"}), roomy(m.Hosts, 77), roomy(m.Globals, api.Global{Letter: 77}), roomy(m.Functions, api.Function{Type: 77})
	for at := range m.Functions {
		code := roomy(m.Functions[at].Code, api.Ins{Op: 0x77})
		for pc := range code {
			code[pc].L = roomy(code[pc].L, 77)
		}
		m.Functions[at].Code = code
	}
	return m
}

// wholeModule is a module with all spare room, in memory of its own.
func wholeModule(m api.Module) api.Module {
	m.Types, m.Hosts, m.Globals, m.Functions = whole(m.Types), whole(m.Hosts), whole(m.Globals), whole(m.Functions)
	for at := range m.Functions {
		code := whole(m.Functions[at].Code)
		for pc := range code {
			code[pc].L = whole(code[pc].L)
		}
		m.Functions[at].Code = code
	}
	return m
}

func sameIns(a, b api.Ins) bool {
	return a.Op == b.Op && a.A == b.A && slices.Equal(a.L, b.L)
}

func sameFunction(a, b api.Function) bool {
	return a.Type == b.Type && a.Locals == b.Locals && slices.EqualFunc(a.Code, b.Code, sameIns)
}

func sameModule(a, b api.Module) bool {
	return slices.Equal(a.Types, b.Types) && slices.Equal(a.Hosts, b.Hosts) && slices.Equal(a.Globals, b.Globals) && a.First == b.First && a.Most == b.Most && slices.EqualFunc(a.Functions, b.Functions, sameFunction)
}

// roomyScript is the same script, in lists that have spare room.
func roomyScript(script []api.Reply) []api.Reply {
	script = roomy(script, api.Reply{Results: []uint64{77}, Trap: true})
	for at := range script {
		script[at].Results = roomy(script[at].Results, 77)
	}
	return script
}

// wholeScript is a script with all spare room, in memory of its own.
func wholeScript(script []api.Reply) []api.Reply {
	script = whole(script)
	for at := range script {
		script[at].Results = whole(script[at].Results)
	}
	return script
}

func sameScript(a, b []api.Reply) bool {
	return slices.EqualFunc(a, b, func(x, y api.Reply) bool { return x.Trap == y.Trap && slices.Equal(x.Results, y.Results) })
}

// spoilScript writes over a script, the lists in it first.
func spoilScript(script []api.Reply) {
	for _, reply := range script {
		spoil(reply.Results, 99)
	}
	spoil(script, api.Reply{Results: []uint64{99}})
}

// spoilModule writes over the lists of a module, the inner ones first.
func spoilModule(m api.Module) {
	for _, f := range m.Functions {
		spoil(f.Code, api.Ins{Op: 0x99})
	}
	spoil(m.Types, api.Sig{Params: "99"})
	spoil(m.Hosts, 99)
	spoil(m.Globals, api.Global{Letter: 99, Value: 99})
	spoil(m.Functions, api.Function{Type: 99})
}

// handed are runs to be asked of: the small ones, and such that are drawn.
func handed() []small {
	r := rand.New(rand.NewSource(246))
	list := append(smalls(), small{rich(), nil, ended(halted), 0}, small{rich(), nil, ended(trapped), 0})
	for range 60 {
		m := drawnModule(r)
		list = append(list, small{m, drawnScript(r, m), drawnState(r, m), 12})
	}
	return list
}

// plans to be asked of: none, saved and not, with spare room behind their slices.
func plans() [][]cuts.Slice {
	var list [][]cuts.Slice
	for _, along := range []string{"", "0s", "0f!", "1s", "1f!", "3s! 3f!", "3f 3s", "2s 0f! 1f 4s!", "1f!*9", "1s*9", "40s!", "40f", "5s! 40f!", "12f 0s!"} {
		list = append(list, roomy(plan(along), cuts.Slice{Fuel: -77, Engine: 77, Save: true}))
	}
	return list
}

// answer is what Run answers, zero where the run is refused.
type answer struct {
	s    api.State
	made []int64
}

func asked(m api.Module, script []api.Reply, s api.State, along []cuts.Slice) answer {
	got, made, _ := cuts.Run(m, script, s, along)
	return answer{got, made}
}

func (a answer) spoil() {
	spoilState(a.s)
	spoil(a.made, 99)
}

func sameAnswer(a, b answer) bool {
	return identical(a.s, b.s) && slices.Equal(a.made, b.made)
}

// answers: those of each plan.
func answers(m api.Module, script []api.Reply, s api.State, list [][]cuts.Slice) []answer {
	var out []answer
	for _, along := range list {
		out = append(out, asked(m, script, s, along))
	}
	return out
}

// TestHanded: what is handed in is not changed, nor its spare room, whatever is called and whatever is done to the answers.
func TestHanded(t *testing.T) {
	for _, x := range handed() {
		m, script, s, list := roomyModule(x.m), roomyScript(x.script), roomyState(x.s), plans()
		list = append(list, roomy(plan("1s -1f"), cuts.Slice{Fuel: 77}), make([]cuts.Slice, 1001), []cuts.Slice{{Engine: 2}})
		module, replies, state := wholeModule(m), wholeScript(script), wholeState(s)
		var before [][]cuts.Slice
		for _, along := range list {
			before = append(before, whole(along))
		}
		for _, got := range answers(m, script, s, list) {
			got.spoil()
		}
		if !sameModule(wholeModule(m), module) || !sameScript(wholeScript(script), replies) || !identical(wholeState(s), state) {
			t.Fatalf("R5: what is handed in is changed: %s", show(x.s))
		}
		for at, along := range list {
			if !slices.Equal(whole(along), before[at]) {
				t.Fatalf("R5: the plan %v is changed: %v", before[at], whole(along))
			}
		}
	}
}

// TestAnswered: what is answered stays, whatever becomes of what was handed in.
func TestAnswered(t *testing.T) {
	for _, x := range handed() {
		m, script, s, list := roomyModule(x.m), roomyScript(x.script), roomyState(x.s), plans()
		want := answers(x.m, x.script, x.s, plans())
		got := answers(m, script, s, list)
		spoilState(s)
		spoilScript(script)
		spoilModule(m)
		for _, along := range list {
			spoil(along, cuts.Slice{Fuel: 99})
		}
		if !slices.EqualFunc(got, want, sameAnswer) {
			t.Fatalf("R5: an answer shares memory with what was handed in: %s", show(x.s))
		}
	}
}

// TestAlone: no two lists of an answer share memory, spare room neither.
func TestAlone(t *testing.T) {
	t.Parallel()
	for _, x := range handed() {
		for _, along := range plans() {
			want := asked(x.m, x.script, x.s, along)
			for at := range lists(&want.s) {
				got := asked(x.m, x.script, x.s, along)
				spoil(*lists(&got.s)[at], 99)
				*lists(&got.s)[at] = slices.Clone(*lists(&want.s)[at])
				if !sameAnswer(got, want) {
					t.Fatalf("R5: the list %d of an answer shares memory with another one: %s", at, show(want.s))
				}
			}
			grown(t, want.s)
		}
	}
}

// grown: what is put behind one list of a state is not seen behind another one.
func grown(t *testing.T, s api.State) {
	t.Helper()
	var long [][]uint64
	for at, list := range lists(&s) {
		long = append(long, append(*list, uint64(1000+at)))
	}
	for at, list := range long {
		if list[len(list)-1] != uint64(1000+at) {
			t.Fatalf("R5: the spare room of the list %d is another one's, too: %s", at, show(s))
		}
	}
	var pages [][]byte
	for at, p := range s.Pages {
		pages = append(pages, append(p, byte(at+1)))
	}
	for at, p := range pages {
		if p[size] != byte(at+1) {
			t.Fatalf("R5: the spare room of the page %d is another one's, too", at)
		}
	}
}

// TestPagesAlone: each page of an answer is memory of its own, even where those that were handed in share theirs.
func TestPagesAlone(t *testing.T) {
	m := paged(3, 5, ">", "", "w.const:1 grow drop w.const:5 w.const:6 w.store8 end")
	s := begun(m)
	s.Pages[1], s.Pages[2] = s.Pages[0], s.Pages[0]
	for _, along := range plans() {
		want := asked(m, nil, s, along)
		if total(want.made) > 5 && (want.s.Pages[0][5] != 6 || want.s.Pages[1][5] != 0 || want.s.Pages[2][5] != 0) {
			t.Fatalf("P24.1: plan %v: %s", along, show(want.s))
		}
		for at := range want.s.Pages {
			got := asked(m, nil, s, along)
			spoil(got.s.Pages[at], 99)
			got.s.Pages[at] = slices.Clone(want.s.Pages[at])
			if !sameAnswer(got, want) || s.Pages[0][5] != 0 || s.Pages[0][99] != 0 {
				t.Fatalf("R5: the page %d shares memory with another one", at)
			}
		}
	}
}

// TestEmpty: a list that is nil and one without elements are the same.
func TestEmpty(t *testing.T) {
	m := of(">", "", "call:0 end")
	empty := api.State{Frames: []api.Frame{{Locals: []uint64{}, Stack: []uint64{}}}, Globals: []uint64{}, Pages: [][]byte{}, Results: []uint64{}, End: suspended}
	for _, along := range append(plans(), plan("7s! 70f"), plan("63f! 1s")) {
		a, b := asked(m, []api.Reply{}, empty, along), asked(m, nil, begun(m), along)
		if !sameAnswer(a, b) || a.s.End == 0 {
			t.Fatalf("R4: plan %v: %s, %v, not %s, %v", along, show(a.s), a.made, show(b.s), b.made)
		}
	}
}

// TestApart: no two answers share memory, neither those of the same call nor one that goes on from the other.
func TestApart(t *testing.T) {
	t.Parallel()
	for _, x := range handed() {
		first, second := answers(x.m, x.script, x.s, plans()), answers(x.m, x.script, x.s, plans())
		for at, a := range second {
			along := plans()[(at*5+2)%len(plans())]
			on := asked(x.m, x.script, first[at].s, along)
			again := asked(x.m, x.script, first[at].s, along)
			on.spoil()
			if !sameAnswer(first[at], a) {
				t.Fatalf("R5: an answer shares memory with that from which it goes on: %s", show(a.s))
			}
			first[at].spoil()
			if on := asked(x.m, x.script, a.s, along); !sameAnswer(on, again) {
				t.Fatalf("R5: an answer shares memory with an earlier one: %s", show(a.s))
			}
		}
		if !slices.EqualFunc(second, answers(x.m, x.script, x.s, plans()), sameAnswer) {
			t.Fatalf("R5: two answers share memory: %s", show(x.s))
		}
	}
}

package back_test

import (
	"math/rand"
	"slices"
	"testing"

	"flagon/api"
	"flagon/back"
)

// roomy is a list of its own with spare room that has v in it.
func roomy[T any](list []T, v T) []T {
	return append(slices.Clone(list), v, v, v)[:len(list)]
}

// whole is a list with its spare room, in memory of its own.
func whole[T any](list []T) []T {
	return slices.Clone(list[:cap(list)])
}

// spoil writes over a list, spare room too.
func spoil[T any](list []T, v T) {
	list = list[:cap(list)]
	for at := range list {
		list[at] = v
	}
}

// lists: those of numbers in a state.
func lists(s *api.State) []*[]uint64 {
	out := []*[]uint64{&s.Results, &s.Globals}
	for at := range s.Frames {
		out = append(out, &s.Frames[at].Locals, &s.Frames[at].Stack)
	}
	return out
}

// roomyState is the same state, in lists that have spare room.
func roomyState(s api.State) api.State {
	s.Pages, s.Frames = roomy(s.Pages, []byte{77}), roomy(s.Frames, api.Frame{Pc: 77, Stack: []uint64{77}})
	for at := range s.Pages {
		s.Pages[at] = roomy(s.Pages[at], 77)
	}
	for _, list := range lists(&s) {
		*list = roomy(*list, 77)
	}
	return s
}

// wholeState is a state with all spare room, in memory of its own.
func wholeState(s api.State) api.State {
	s.Pages, s.Frames = whole(s.Pages), whole(s.Frames)
	for at := range s.Pages {
		s.Pages[at] = whole(s.Pages[at])
	}
	for _, list := range lists(&s) {
		*list = whole(*list)
	}
	return s
}

// spoilState writes over all lists of a state, the inner ones first.
func spoilState(s api.State) {
	for _, p := range s.Pages {
		spoil(p, 99)
	}
	for _, list := range lists(&s) {
		spoil(*list, 99)
	}
	spoil(s.Pages, []byte{99})
	spoil(s.Frames, api.Frame{Function: 99, Stack: []uint64{99}})
}

// roomyModule is the same module, in lists that have spare room.
func roomyModule(m api.Module) api.Module {
	m.Types, m.Hosts, m.Globals, m.Functions = roomy(m.Types, api.Sig{Params: "77"}), roomy(m.Hosts, 77), roomy(m.Globals, api.Global{Letter: 77}), roomy(m.Functions, api.Function{Type: 77})
	m.Data, m.Exports = roomy(m.Data, api.Data{At: 77}), roomy(m.Exports, api.Export{Name: "77"})
	for at := range m.Data {
		m.Data[at].B = roomy(m.Data[at].B, 77)
	}
	for at := range m.Functions {
		code := roomy(m.Functions[at].Code, api.Ins{Op: 0x77})
		for pc := range code {
			code[pc].L = roomy(code[pc].L, 77)
		}
		m.Functions[at].Code = code
	}
	return m
}

// wholeModule is a module with all spare room, in memory of its own.
func wholeModule(m api.Module) api.Module {
	m.Types, m.Hosts, m.Globals, m.Functions = whole(m.Types), whole(m.Hosts), whole(m.Globals), whole(m.Functions)
	m.Data, m.Exports = whole(m.Data), whole(m.Exports)
	for at := range m.Data {
		m.Data[at].B = whole(m.Data[at].B)
	}
	for at := range m.Functions {
		code := whole(m.Functions[at].Code)
		for pc := range code {
			code[pc].L = whole(code[pc].L)
		}
		m.Functions[at].Code = code
	}
	return m
}

func sameIns(a, b api.Ins) bool {
	return a.Op == b.Op && a.A == b.A && slices.Equal(a.L, b.L)
}

func sameFunction(a, b api.Function) bool {
	return a.Type == b.Type && a.Locals == b.Locals && slices.EqualFunc(a.Code, b.Code, sameIns)
}

func sameData(a, b api.Data) bool {
	return a.At == b.At && slices.Equal(a.B, b.B)
}

func sameModule(a, b api.Module) bool {
	return slices.EqualFunc(a.Data, b.Data, sameData) && slices.Equal(a.Exports, b.Exports) && slices.Equal(a.Types, b.Types) && slices.Equal(a.Hosts, b.Hosts) && slices.Equal(a.Globals, b.Globals) && a.First == b.First && a.Most == b.Most && slices.EqualFunc(a.Functions, b.Functions, sameFunction)
}

// roomyScript is the same script, in lists that have spare room.
func roomyScript(script []api.Reply) []api.Reply {
	script = roomy(script, api.Reply{Results: []uint64{77}, Trap: true})
	for at := range script {
		script[at].Results = roomy(script[at].Results, 77)
	}
	return script
}

// wholeScript is a script with all spare room, in memory of its own.
func wholeScript(script []api.Reply) []api.Reply {
	script = whole(script)
	for at := range script {
		script[at].Results = whole(script[at].Results)
	}
	return script
}

func sameScript(a, b []api.Reply) bool {
	return slices.EqualFunc(a, b, func(x, y api.Reply) bool { return x.Trap == y.Trap && slices.Equal(x.Results, y.Results) })
}

// spoilScript writes over a script, the lists in it first.
func spoilScript(script []api.Reply) {
	for _, reply := range script {
		spoil(reply.Results, 99)
	}
	spoil(script, api.Reply{Results: []uint64{99}})
}

// spoilModule writes over all lists of a module, the inner ones first.
func spoilModule(m api.Module) {
	for _, f := range m.Functions {
		for _, x := range f.Code {
			spoil(x.L, 99)
		}
		spoil(f.Code, api.Ins{Op: 0x99})
	}
	for _, d := range m.Data {
		spoil(d.B, 99)
	}
	spoil(m.Types, api.Sig{Params: "99"})
	spoil(m.Hosts, 99)
	spoil(m.Globals, api.Global{Letter: 99, Value: 99})
	spoil(m.Functions, api.Function{Type: 99})
	spoil(m.Data, api.Data{At: 99})
	spoil(m.Exports, api.Export{Function: 99})
}

// handed are runs to be asked of: the small ones, longer ones, such as are drawn, and one whose module has data and exports.
func handed() []small {
	r := rand.New(rand.NewSource(255))
	list := append(smalls(), segmented()...)
	for range 60 {
		m := drawnModule(r)
		list = append(list, small{m, drawnScript(r, m), drawnState(r, m), 12})
	}
	m := paged(1, 2, "w>w", "", "block:> block:> get:0 brtable:0,1 end w.const:5 return end w.const:6 end")
	m.Data = []api.Data{{At: 3, B: []byte{1, 2}}, {At: 9, B: []byte{4}}}
	m.Exports = []api.Export{{Name: "f"}}
	return append(list, small{m, nil, begun(m, 0), 7}, small{m, nil, begun(m, 9), 6})
}

// trip: steps on and back, so many that states are come by, kept, and gone back to.
func trip() []int64 {
	return []int64{0, 5, 1, 3, 3, 9, 2, 12, 6, 0, 15}
}

// answer is what a tape answers when it has gone somewhere.
type answer struct {
	s    api.State
	kept []int64
}

func asked(x *back.Tape, to int64) answer {
	s, _ := x.Go(to)
	return answer{s, x.Kept()}
}

func (a answer) spoil() {
	spoilState(a.s)
	spoil(a.kept, 99)
}

func sameAnswer(a, b answer) bool {
	return identical(a.s, b.s) && slices.Equal(a.kept, b.kept)
}

// answers: those along a trip.
func answers(x *back.Tape) []answer {
	var list []answer
	for _, to := range trip() {
		list = append(list, asked(x, to))
	}
	return list
}

// wanted: the answers of a tape to which nothing else is done.
func wanted(t *testing.T, x small, every int) []answer {
	t.Helper()
	list := answers(taped(t, x.m, x.script, x.s, every))
	for at, a := range list {
		list[at] = answer{cloned(a.s), slices.Clone(a.kept)}
	}
	return list
}

// some: a few everies.
func some() []int {
	return []int{1, 3, 4, 1000}
}

// TestHanded: what is handed in is not changed, nor its spare room, whatever is called and whatever is done to the answers.
func TestHanded(t *testing.T) {
	for _, x := range handed() {
		m, script, s := roomyModule(x.m), roomyScript(x.script), roomyState(x.s)
		module, replies, state := wholeModule(m), wholeScript(script), wholeState(s)
		for _, every := range append(some(), 0) {
			tape, _ := back.New(m, script, s, every)
			for _, a := range answers(tape) {
				a.spoil()
			}
			tape.Go(-1)
			tape.Go(furthest + 1)
		}
		if !sameModule(wholeModule(m), module) || !sameScript(wholeScript(script), replies) || !identical(wholeState(s), state) {
			t.Fatalf("R5: what is handed in is changed: %s", show(x.s))
		}
	}
}

// TestHandedLater: a tape keeps nothing of what was handed in: it goes its ways whatever becomes of that.
func TestHandedLater(t *testing.T) {
	for _, x := range handed() {
		for _, every := range some() {
			want := wanted(t, x, every)
			for gone := range 3 {
				m, script, s := roomyModule(x.m), roomyScript(x.script), roomyState(x.s)
				tape := taped(t, m, script, s, every)
				for _, to := range trip()[:gone] {
					tape.Go(to)
				}
				spoilState(s)
				spoilScript(script)
				spoilModule(m)
				for at, to := range trip()[gone:] {
					if got := asked(tape, to); !sameAnswer(got, want[gone+at]) {
						t.Fatalf("R5: a tape shares memory with what was handed in: %s, every %d, Go(%d): %s, not %s", code(x.m, 0), every, to, show(got.s), show(want[gone+at].s))
					}
				}
			}
		}
	}
}

// TestAnswersStay: what was answered stays, whatever the tape does later, and whatever becomes of what was handed in.
func TestAnswersStay(t *testing.T) {
	for _, x := range handed() {
		for _, every := range some() {
			m, script, s := roomyModule(x.m), roomyScript(x.script), roomyState(x.s)
			tape := taped(t, m, script, s, every)
			got := answers(tape)
			answers(tape)
			spoilState(s)
			spoilScript(script)
			spoilModule(m)
			answers(tape)
			if !slices.EqualFunc(got, wanted(t, x, every), sameAnswer) {
				t.Fatalf("R5: what was answered is changed: %s, every %d", code(x.m, 0), every)
			}
		}
	}
}

// TestSpoilt: a tape shares no memory with what it answers, spare room neither: it goes its ways whatever becomes of that.
func TestSpoilt(t *testing.T) {
	for _, x := range handed() {
		for _, every := range some() {
			want := wanted(t, x, every)
			tape := taped(t, x.m, x.script, x.s, every)
			for round := range 2 {
				for at, to := range trip() {
					got := asked(tape, to)
					if !identical(got.s, want[at].s) || round == 0 && !slices.Equal(got.kept, want[at].kept) {
						t.Fatalf("R5: a tape shares memory with an earlier answer: %s, every %d, Go(%d): %s, not %s", code(x.m, 0), every, to, show(got.s), show(want[at].s))
					}
					got.spoil()
				}
			}
		}
	}
}

// TestApart: no two answers share memory, those of the same step neither.
func TestApart(t *testing.T) {
	for _, x := range handed() {
		for _, every := range some() {
			tape := taped(t, x.m, x.script, x.s, every)
			want := wanted(t, x, every)
			for at, to := range trip() {
				first, second := asked(tape, to), asked(tape, to)
				first.spoil()
				third := asked(tape, to)
				if !sameAnswer(second, want[at]) || !sameAnswer(third, want[at]) {
					t.Fatalf("R5: two answers share memory: %s, every %d, Go(%d)", code(x.m, 0), every, to)
				}
			}
		}
	}
}

// TestKeptRoom: a list of the steps that are kept is new each time, its spare room too.
func TestKeptRoom(t *testing.T) {
	m, s := counting()
	x := taped(t, m, nil, s, 2)
	for to := range int64(40) {
		went(t, x, to)
		want := told(x.Kept())
		first, second := x.Kept(), x.Kept()
		if cap(first) > len(first) && cap(second) > len(second) {
			first, second = append(first, 77), append(second, 78)
			if first[len(first)-1] != 77 {
				t.Fatal("R5: two lists share their spare room")
			}
		}
		spoil(first, 99)
		if told(x.Kept()) != want || told(second[:to/2+1]) != want {
			t.Fatalf("R5: kept %v, not %s", x.Kept(), want)
		}
	}
}

// TestAlone: no two lists of an answer share memory, spare room neither.
func TestAlone(t *testing.T) {
	for _, x := range handed() {
		tape := taped(t, x.m, x.script, x.s, 3)
		for _, to := range trip() {
			want := went(t, tape, to)
			for at := range lists(&want) {
				got := went(t, tape, to)
				spoil(*lists(&got)[at], 99)
				*lists(&got)[at] = slices.Clone(*lists(&want)[at])
				if !identical(got, want) {
					t.Fatalf("R5: the list %d of an answer shares memory with another one: %s", at, show(want))
				}
			}
			grown(t, want)
		}
	}
}

// grown: what is put behind one list of a state is not seen behind another one.
func grown(t *testing.T, s api.State) {
	t.Helper()
	var long [][]uint64
	for at, list := range lists(&s) {
		long = append(long, append(*list, uint64(1000+at)))
	}
	for at, list := range long {
		if list[len(list)-1] != uint64(1000+at) {
			t.Fatalf("R5: the spare room of the list %d is another one's, too: %s", at, show(s))
		}
	}
	var pages [][]byte
	for at, p := range s.Pages {
		pages = append(pages, append(p, byte(at+1)))
	}
	for at, p := range pages {
		if p[size] != byte(at+1) {
			t.Fatalf("R5: the spare room of the page %d is another one's, too", at)
		}
	}
}

// TestPagesAlone: each page of an answer is memory of its own, even where those that were handed in share theirs.
func TestPagesAlone(t *testing.T) {
	m := paged(3, 5, ">", "", "w.const:1 grow drop w.const:5 w.const:6 w.store8 end")
	s := begun(m)
	s.Pages[1], s.Pages[2] = s.Pages[0], s.Pages[0]
	for _, every := range some() {
		tape := taped(t, m, nil, s, every)
		for _, to := range []int64{0, 6, 5, 7, 6, 0, 2} {
			want := went(t, tape, to)
			if want.Pages[0][5] != []byte{0, 6}[to/6] || want.Pages[1][5] != 0 || want.Pages[2][5] != 0 {
				t.Fatalf("W7: Go(%d): %s", to, show(want))
			}
			for at := range want.Pages {
				got := went(t, tape, to)
				spoil(got.Pages[at], 99)
				got.Pages[at] = slices.Clone(want.Pages[at])
				if !identical(got, want) || s.Pages[0][5] != 0 || s.Pages[0][99] != 0 {
					t.Fatalf("R5: the page %d shares memory with another one", at)
				}
			}
		}
	}
}

// TestEmpty: a list that is nil and one without elements are the same.
func TestEmpty(t *testing.T) {
	m := of(">", "", "call:0 end")
	empty := api.State{Frames: []api.Frame{{Locals: []uint64{}, Stack: []uint64{}}}, Globals: []uint64{}, Pages: [][]byte{}, Results: []uint64{}, End: suspended}
	other := m
	other.Hosts, other.Globals, other.Data, other.Exports = []int{}, []api.Global{}, []api.Data{}, []api.Export{}
	for _, every := range some() {
		a, b := taped(t, other, []api.Reply{}, empty, every), taped(t, m, nil, begun(m), every)
		for _, to := range append(trip(), 70, 3) {
			if one, two := asked(a, to), asked(b, to); !sameAnswer(one, two) || one.s.End == 0 {
				t.Fatalf("R4: Go(%d): %s, not %s", to, show(one.s), show(two.s))
			}
		}
	}
}

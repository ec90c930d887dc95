package debug_test

import (
	"math/rand"
	"slices"
	"testing"

	"flagon/api"
	"flagon/debug"
)

// roomy is a list of its own with spare room that has v in it.
func roomy[T any](list []T, v T) []T {
	return append(slices.Clone(list), v, v, v)[:len(list)]
}

// whole is a list with its spare room, in memory of its own.
func whole[T any](list []T) []T {
	return slices.Clone(list[:cap(list)])
}

// spoil writes over a list, spare room too.
func spoil[T any](list []T, v T) {
	list = list[:cap(list)]
	for at := range list {
		list[at] = v
	}
}

// lists: those of numbers in a state.
func lists(s *api.State) []*[]uint64 {
	out := []*[]uint64{&s.Results, &s.Globals}
	for at := range s.Frames {
		out = append(out, &s.Frames[at].Locals, &s.Frames[at].Stack)
	}
	return out
}

// roomyState is the same state, in lists that have spare room.
func roomyState(s api.State) api.State {
	s.Pages, s.Frames = roomy(s.Pages, []byte{77}), roomy(s.Frames, api.Frame{Pc: 77, Stack: []uint64{77}})
	for at := range s.Pages {
		s.Pages[at] = roomy(s.Pages[at], 77)
	}
	for _, list := range lists(&s) {
		*list = roomy(*list, 77)
	}
	return s
}

// wholeState is a state with all spare room, in memory of its own.
func wholeState(s api.State) api.State {
	s.Pages, s.Frames = whole(s.Pages), whole(s.Frames)
	for at := range s.Pages {
		s.Pages[at] = whole(s.Pages[at])
	}
	for _, list := range lists(&s) {
		*list = whole(*list)
	}
	return s
}

// spoilState writes over all lists of a state, the inner ones first.
func spoilState(s api.State) {
	for _, p := range s.Pages {
		spoil(p, 99)
	}
	for _, list := range lists(&s) {
		spoil(*list, 99)
	}
	spoil(s.Pages, []byte{99})
	spoil(s.Frames, api.Frame{Function: 99, Stack: []uint64{99}})
}

// roomyModule is the same module, in lists that have spare room.
func roomyModule(m api.Module) api.Module {
	m.Types, m.Hosts, m.Globals, m.Functions = roomy(m.Types, api.Sig{Params: "77"}), roomy(m.Hosts, 77), roomy(m.Globals, api.Global{Letter: 77}), roomy(m.Functions, api.Function{Type: 77})
	m.Data, m.Exports = roomy(m.Data, api.Data{At: 77}), roomy(m.Exports, api.Export{Name: "77"})
	for at := range m.Data {
		m.Data[at].B = roomy(m.Data[at].B, 77)
	}
	for at := range m.Functions {
		code := roomy(m.Functions[at].Code, api.Ins{Op: 0x77})
		for pc := range code {
			code[pc].L = roomy(code[pc].L, 77)
		}
		m.Functions[at].Code = code
	}
	return m
}

// wholeModule is a module with all spare room, in memory of its own.
func wholeModule(m api.Module) api.Module {
	m.Types, m.Hosts, m.Globals, m.Functions = whole(m.Types), whole(m.Hosts), whole(m.Globals), whole(m.Functions)
	m.Data, m.Exports = whole(m.Data), whole(m.Exports)
	for at := range m.Data {
		m.Data[at].B = whole(m.Data[at].B)
	}
	for at := range m.Functions {
		code := whole(m.Functions[at].Code)
		for pc := range code {
			code[pc].L = whole(code[pc].L)
		}
		m.Functions[at].Code = code
	}
	return m
}

func sameIns(a, b api.Ins) bool {
	return a.Op == b.Op && a.A == b.A && slices.Equal(a.L, b.L)
}

func sameFunction(a, b api.Function) bool {
	return a.Type == b.Type && a.Locals == b.Locals && slices.EqualFunc(a.Code, b.Code, sameIns)
}

func sameData(a, b api.Data) bool {
	return a.At == b.At && slices.Equal(a.B, b.B)
}

func sameModule(a, b api.Module) bool {
	return slices.EqualFunc(a.Data, b.Data, sameData) && slices.Equal(a.Exports, b.Exports) && slices.Equal(a.Types, b.Types) && slices.Equal(a.Hosts, b.Hosts) && slices.Equal(a.Globals, b.Globals) && a.First == b.First && a.Most == b.Most && slices.EqualFunc(a.Functions, b.Functions, sameFunction)
}

// roomyScript is the same script, in lists that have spare room.
func roomyScript(script []api.Reply) []api.Reply {
	script = roomy(script, api.Reply{Results: []uint64{77}, Trap: true})
	for at := range script {
		script[at].Results = roomy(script[at].Results, 77)
	}
	return script
}

// wholeScript is a script with all spare room, in memory of its own.
func wholeScript(script []api.Reply) []api.Reply {
	script = whole(script)
	for at := range script {
		script[at].Results = whole(script[at].Results)
	}
	return script
}

func sameScript(a, b []api.Reply) bool {
	return slices.EqualFunc(a, b, func(x, y api.Reply) bool { return x.Trap == y.Trap && slices.Equal(x.Results, y.Results) })
}

// spoilScript writes over a script, the lists in it first.
func spoilScript(script []api.Reply) {
	for _, reply := range script {
		spoil(reply.Results, 99)
	}
	spoil(script, api.Reply{Results: []uint64{99}})
}

// spoilModule writes over all lists of a module, the inner ones first.
func spoilModule(m api.Module) {
	for _, f := range m.Functions {
		for _, x := range f.Code {
			spoil(x.L, 99)
		}
		spoil(f.Code, api.Ins{Op: 0x99})
	}
	for _, d := range m.Data {
		spoil(d.B, 99)
	}
	spoil(m.Types, api.Sig{Params: "99"})
	spoil(m.Hosts, 99)
	spoil(m.Globals, api.Global{Letter: 99, Value: 99})
	spoil(m.Functions, api.Function{Type: 99})
	spoil(m.Data, api.Data{At: 99})
	spoil(m.Exports, api.Export{Function: 99})
}

// handed are runs to be asked of: the small ones, longer ones, such as are drawn, and one whose module has data and exports.
func handed() []small {
	r := rand.New(rand.NewSource(287))
	list := runs()
	for range 60 {
		m := drawnModule(r)
		list = append(list, small{m, drawnScript(r, m), drawnState(r, m), 12})
	}
	m := paged(1, 2, "w>w", "", "block:> block:> get:0 brtable:0,1 end w.const:5 return end w.const:6 end")
	m.Data = []api.Data{{At: 3, B: []byte{1, 2}}, {At: 9, B: []byte{4}}}
	m.Exports = []api.Export{{Name: "f"}}
	return append(list, small{m, nil, begun(m, 0), 7}, small{m, nil, begun(m, 9), 6})
}

// answer is what a debug answers when something was done to it.
type answer struct {
	said  int64 // what else the call answers, as a number
	e     api.Errno
	state api.State
}

func sameAnswers(a, b []answer) bool {
	return slices.EqualFunc(a, b, func(x, y answer) bool { return x.said == y.said && x.e == y.e && identical(x.state, y.state) })
}

// trip does to a debug all that can be done: what it answers each time, and the state behind that.
func trip(d *debug.Debug, function, pc, at, n int, steps int64) []answer {
	var list []answer
	add := func(said int64, e api.Errno) {
		s, _ := d.State()
		list = append(list, answer{said, e, s})
	}
	run := func(fuel int64) {
		why, e := d.Run(fuel)
		add(int64(why), e)
	}
	add(0, d.Break(function, pc))
	add(0, d.Watch(at, n))
	run(steps)
	run(steps)
	gone, e := d.Back(steps / 2)
	add(gone, e)
	run(1)
	run(30)
	d.Unwatch()
	run(30)
	gone, e = d.Back(steps + 3)
	add(gone, e)
	run(2)
	was := int64(0)
	if d.Clear(function, pc) {
		was = 1
	}
	add(was, api.OK)
	run(steps)
	return list
}

// usual is a trip that every run of handed may make.
func usual(d *debug.Debug) []answer {
	return append(trip(d, 0, 1, 0, 64, 5), trip(d, 0, 0, 4090, 9, 7)...)
}

// wanted: the answers of a debug to which nothing else is done.
func wanted(t *testing.T, x small) []answer {
	t.Helper()
	list := usual(bugged(t, x.m, x.script, x.s))
	for at := range list {
		list[at].state = cloned(list[at].state)
	}
	return list
}

// TestHanded: what is handed in is not changed, nor its spare room, whatever is called and whatever is done to the answers.
func TestHanded(t *testing.T) {
	for _, x := range handed() {
		m, script, s := roomyModule(x.m), roomyScript(x.script), roomyState(x.s)
		module, replies, state := wholeModule(m), wholeScript(script), wholeState(s)
		for range 2 {
			d := bugged(t, m, script, s)
			for _, a := range usual(d) {
				spoilState(a.state)
			}
			d.Run(-1)
			d.Back(-1)
			d.Back(mostSteps)
			usual(d)
		}
		broken := s
		broken.Used = -1
		debug.New(m, script, broken)
		if !sameModule(wholeModule(m), module) || !sameScript(wholeScript(script), replies) || !identical(wholeState(s), state) {
			t.Fatalf("R5: what is handed in is changed: %s", show(x.s))
		}
	}
}

// TestHandedLater: a debug keeps nothing of what was handed in: it goes on, and back, whatever becomes of that.
func TestHandedLater(t *testing.T) {
	for _, x := range handed() {
		want := wanted(t, x)
		for gone := range 4 {
			m, script, s := roomyModule(x.m), roomyScript(x.script), roomyState(x.s)
			d := bugged(t, m, script, s)
			d.Run(int64(gone))
			d.Back(int64(gone % 2 * gone))
			spoilState(s)
			spoilScript(script)
			spoilModule(m)
			d.Back(mostSteps)
			if got := usual(d); !sameAnswers(got, want) {
				t.Fatalf("R5: a debug shares memory with what was handed in: %s", code(x.m, 0))
			}
		}
	}
}

// TestAnswersStay: what was answered stays, whatever the debug does later, and whatever becomes of what was handed in.
func TestAnswersStay(t *testing.T) {
	for _, x := range handed() {
		m, script, s := roomyModule(x.m), roomyScript(x.script), roomyState(x.s)
		d := bugged(t, m, script, s)
		got := usual(d)
		usual(d)
		spoilState(s)
		spoilScript(script)
		spoilModule(m)
		usual(d)
		if !sameAnswers(got, wanted(t, x)) {
			t.Fatalf("R5: what was answered is changed: %s", code(x.m, 0))
		}
	}
}

// TestSpoilt: a debug shares no memory with the states that it tells, spare room neither, and no two of them share any.
func TestSpoilt(t *testing.T) {
	for _, x := range handed() {
		p := paired(t, x, single(t, x, 40))
		p.watch(t, 0, 64)
		p.put(t, 0, 1)
		for _, n := range []int{0, 1, 3, 0, 7, 20, 2, 40} {
			p.run(t, n)
			first, second := state(t, p.debug), state(t, p.debug)
			spoilState(first)
			p.agrees(t)
			if !identical(second, p.way[p.at]) {
				t.Fatalf("R5: two answers share memory: %s", code(x.m, 0))
			}
			p.back(t, n/3)
			spoilState(state(t, p.debug))
			p.agrees(t)
		}
	}
}

// TestAlone: no two lists of an answer share memory, spare room neither.
func TestAlone(t *testing.T) {
	for _, x := range handed() {
		d := bugged(t, x.m, x.script, x.s)
		for _, n := range []int64{0, 1, 4, 9, 3} {
			d.Run(n)
			want := state(t, d)
			for at := range lists(&want) {
				got := state(t, d)
				spoil(*lists(&got)[at], 99)
				*lists(&got)[at] = slices.Clone(*lists(&want)[at])
				if !identical(got, want) {
					t.Fatalf("R5: the list %d of an answer shares memory with another one: %s", at, show(want))
				}
			}
			grown(t, want)
		}
	}
}

// grown: what is put behind one list of a state is not seen behind another one.
func grown(t *testing.T, s api.State) {
	t.Helper()
	var long [][]uint64
	for at, list := range lists(&s) {
		long = append(long, append(*list, uint64(1000+at)))
	}
	for at, list := range long {
		if list[len(list)-1] != uint64(1000+at) {
			t.Fatalf("R5: the spare room of the list %d is another one's, too: %s", at, show(s))
		}
	}
	var pages [][]byte
	for at, p := range s.Pages {
		pages = append(pages, append(p, byte(at+1)))
	}
	for at, p := range pages {
		if p[size] != byte(at+1) {
			t.Fatalf("R5: the spare room of the page %d is another one's, too", at)
		}
	}
}

// TestPagesAlone: each page of an answer is memory of its own, even where those that were handed in share theirs; so is each page of a run.
func TestPagesAlone(t *testing.T) {
	m := paged(3, 5, ">", "", "w.const:1 grow drop w.const:5 w.const:6 w.store8 end")
	s := begun(m)
	s.Pages[1], s.Pages[2] = s.Pages[0], s.Pages[0]
	d := bugged(t, m, nil, s)
	watches(t, d, size+5, 1)
	stops(t, d, 6, fuelled, 6)
	watches(t, d, 5, 1)
	goes(t, d, 2, 2, 4)
	stops(t, d, 6, watched, 6)
	want := state(t, d)
	if want.Pages[0][5] != 6 || want.Pages[1][5] != 0 || want.Pages[2][5] != 0 {
		t.Fatalf("W7: %s", show(want))
	}
	for at := range want.Pages {
		got := state(t, d)
		spoil(got.Pages[at], 99)
		got.Pages[at] = slices.Clone(want.Pages[at])
		if !identical(got, want) || s.Pages[0][5] != 0 || s.Pages[0][99] != 0 {
			t.Fatalf("R5: the page %d shares memory with another one", at)
		}
	}
}

// TestEmpty: a list that is nil and one without elements are the same.
func TestEmpty(t *testing.T) {
	m := of(">", "", "call:0 end")
	empty := api.State{Frames: []api.Frame{{Locals: []uint64{}, Stack: []uint64{}}}, Globals: []uint64{}, Pages: [][]byte{}, Results: []uint64{}, End: suspended}
	other := m
	other.Hosts, other.Globals, other.Data, other.Exports = []int{}, []api.Global{}, []api.Data{}, []api.Export{}
	a, b := bugged(t, other, []api.Reply{}, empty), bugged(t, m, nil, begun(m))
	if !sameAnswers(usual(a), usual(b)) {
		t.Error("R4: of empty lists other answers")
	}
}

package profile_test

import (
	"math/rand"
	"slices"
	"testing"

	"flagon/api"
	"flagon/profile"
)

// roomy is a list of its own with spare room that has v in it.
func roomy[T any](list []T, v T) []T {
	return append(slices.Clone(list), v, v, v)[:len(list)]
}

// full is a list with its spare room, in memory of its own.
func full[T any](list []T) []T {
	return slices.Clone(list[:cap(list)])
}

// spoil writes over a list, spare room too.
func spoil[T any](list []T, v T) {
	list = list[:cap(list)]
	for at := range list {
		list[at] = v
	}
}

// lists: those of numbers in a state.
func lists(s *api.State) []*[]uint64 {
	out := []*[]uint64{&s.Results, &s.Globals}
	for at := range s.Frames {
		out = append(out, &s.Frames[at].Locals, &s.Frames[at].Stack)
	}
	return out
}

// roomyState is the same state, in lists that have spare room.
func roomyState(s api.State) api.State {
	s.Pages, s.Frames = roomy(s.Pages, []byte{77}), roomy(s.Frames, api.Frame{Pc: 77, Stack: []uint64{77}})
	for at := range s.Pages {
		s.Pages[at] = roomy(s.Pages[at], 77)
	}
	for _, list := range lists(&s) {
		*list = roomy(*list, 77)
	}
	return s
}

// wholeState is a state with all spare room, in memory of its own.
func wholeState(s api.State) api.State {
	s.Pages, s.Frames = full(s.Pages), full(s.Frames)
	for at := range s.Pages {
		s.Pages[at] = full(s.Pages[at])
	}
	for _, list := range lists(&s) {
		*list = full(*list)
	}
	return s
}

// spoilState writes over all lists of a state, the inner ones first.
func spoilState(s api.State) {
	for _, p := range s.Pages {
		spoil(p, 99)
	}
	for _, list := range lists(&s) {
		spoil(*list, 99)
	}
	spoil(s.Pages, []byte{99})
	spoil(s.Frames, api.Frame{Function: 99, Stack: []uint64{99}})
}

// roomyModule is the same module, in lists that have spare room.
func roomyModule(m api.Module) api.Module {
	m.Types, m.Hosts, m.Globals, m.Functions = roomy(m.Types, api.Sig{Params: "77"}), roomy(m.Hosts, 77), roomy(m.Globals, api.Global{Letter: 77}), roomy(m.Functions, api.Function{Type: 77})
	m.Data, m.Exports = roomy(m.Data, api.Data{At: 77}), roomy(m.Exports, api.Export{Name: "77"})
	for at := range m.Data {
		m.Data[at].B = roomy(m.Data[at].B, 77)
	}
	for at := range m.Functions {
		code := roomy(m.Functions[at].Code, api.Ins{Op: 0x77})
		for pc := range code {
			code[pc].L = roomy(code[pc].L, 77)
		}
		m.Functions[at].Code = code
	}
	return m
}

// wholeModule is a module with all spare room, in memory of its own.
func wholeModule(m api.Module) api.Module {
	m.Types, m.Hosts, m.Globals, m.Functions = full(m.Types), full(m.Hosts), full(m.Globals), full(m.Functions)
	m.Data, m.Exports = full(m.Data), full(m.Exports)
	for at := range m.Data {
		m.Data[at].B = full(m.Data[at].B)
	}
	for at := range m.Functions {
		code := full(m.Functions[at].Code)
		for pc := range code {
			code[pc].L = full(code[pc].L)
		}
		m.Functions[at].Code = code
	}
	return m
}

func sameIns(a, b api.Ins) bool {
	return a.Op == b.Op && a.A == b.A && slices.Equal(a.L, b.L)
}

func sameFunction(a, b api.Function) bool {
	return a.Type == b.Type && a.Locals == b.Locals && slices.EqualFunc(a.Code, b.Code, sameIns)
}

func sameData(a, b api.Data) bool {
	return a.At == b.At && slices.Equal(a.B, b.B)
}

func sameModule(a, b api.Module) bool {
	return slices.EqualFunc(a.Data, b.Data, sameData) && slices.Equal(a.Exports, b.Exports) && slices.Equal(a.Types, b.Types) && slices.Equal(a.Hosts, b.Hosts) && slices.Equal(a.Globals, b.Globals) && a.First == b.First && a.Most == b.Most && slices.EqualFunc(a.Functions, b.Functions, sameFunction)
}

// roomyScript is the same script, in lists that have spare room.
func roomyScript(script []api.Reply) []api.Reply {
	script = roomy(script, api.Reply{Results: []uint64{77}, Trap: true})
	for at := range script {
		script[at].Results = roomy(script[at].Results, 77)
	}
	return script
}

// wholeScript is a script with all spare room, in memory of its own.
func wholeScript(script []api.Reply) []api.Reply {
	script = full(script)
	for at := range script {
		script[at].Results = full(script[at].Results)
	}
	return script
}

func sameScript(a, b []api.Reply) bool {
	return slices.EqualFunc(a, b, func(x, y api.Reply) bool { return x.Trap == y.Trap && slices.Equal(x.Results, y.Results) })
}

// spoilScript writes over a script, the lists in it first.
func spoilScript(script []api.Reply) {
	for _, reply := range script {
		spoil(reply.Results, 99)
	}
	spoil(script, api.Reply{Results: []uint64{99}})
}

// spoilModule writes over all lists of a module, the inner ones first.
func spoilModule(m api.Module) {
	for _, f := range m.Functions {
		for _, x := range f.Code {
			spoil(x.L, 99)
		}
		spoil(f.Code, api.Ins{Op: 0x99})
	}
	for _, d := range m.Data {
		spoil(d.B, 99)
	}
	spoil(m.Types, api.Sig{Params: "99"})
	spoil(m.Hosts, 99)
	spoil(m.Globals, api.Global{Letter: 99, Value: 99})
	spoil(m.Functions, api.Function{Type: 99})
	spoil(m.Data, api.Data{At: 99})
	spoil(m.Exports, api.Export{Function: 99})
}

// handed are runs to be asked of: the small ones, longer ones, such as are drawn, and one whose module has data and exports.
func handed() []small {
	r := rand.New(rand.NewSource(255))
	list := append(smalls(), segmented()...)
	for range 60 {
		m := drawnModule(r)
		list = append(list, small{m, drawnScript(r, m), drawnState(r, m), 12})
	}
	m := paged(1, 2, "w>w", "", "block:> block:> get:0 brtable:0,1 end w.const:5 return end w.const:6 end")
	m.Data = []api.Data{{At: 3, B: []byte{1, 2}}, {At: 9, B: []byte{4}}}
	m.Exports = []api.Export{{Name: "f"}}
	return append(list, small{m, nil, begun(m, 0), 7}, small{m, nil, begun(m, 9), 6})
}

// answer is what the three calls answer.
type answer struct {
	counts [][]int64
	s      api.State
	lines  []profile.Line
	ops    []int64
}

func asked(t *testing.T, x small) answer {
	t.Helper()
	counts, s := counted(t, x, int64(x.steps))
	return answer{counts, s, linesOf(t, x.m, counts), opsOf(t, x.m, counts)}
}

// spoil writes over all of an answer, spare room too.
func (a answer) spoil() {
	spoilState(a.s)
	spoilCounts(a.counts)
	spoil(a.lines, profile.Line{Function: 99, Start: 99, Entered: 99, Fuel: 99})
	spoil(a.ops, 99)
}

// spoilCounts writes over all lists of counts, the inner ones first.
func spoilCounts(counts [][]int64) {
	for _, list := range counts {
		spoil(list, 99)
	}
	spoil(counts, []int64{99})
}

func clonedCounts(counts [][]int64) [][]int64 {
	counts = slices.Clone(counts)
	for at := range counts {
		counts[at] = slices.Clone(counts[at])
	}
	return counts
}

// roomyCounts: the same numbers, in lists that have spare room.
func roomyCounts(counts [][]int64) [][]int64 {
	counts = roomy(counts, []int64{77})
	for at := range counts {
		counts[at] = roomy(counts[at], 77)
	}
	return counts
}

// wholeCounts: counts with all spare room, in memory of their own.
func wholeCounts(counts [][]int64) [][]int64 {
	counts = full(counts)
	for at := range counts {
		counts[at] = full(counts[at])
	}
	return counts
}

// copied is the same answer in memory of its own.
func (a answer) copied() answer {
	return answer{clonedCounts(a.counts), cloned(a.s), slices.Clone(a.lines), slices.Clone(a.ops)}
}

func sameAnswer(a, b answer) bool {
	return identical(a.s, b.s) && sameCounts(a.counts, b.counts) && slices.Equal(a.lines, b.lines) && slices.Equal(a.ops, b.ops)
}

// TestHanded: what is handed in is not changed, nor its spare room, whatever is called and whatever is done to the answers.
func TestHanded(t *testing.T) {
	for _, x := range handed() {
		m, script, s := roomyModule(x.m), roomyScript(x.script), roomyState(x.s)
		module, replies, state := wholeModule(m), wholeScript(script), wholeState(s)
		for _, fuel := range []int{0, 1, 3, 9, x.steps, x.steps + 9} {
			asked(t, small{m, script, s, fuel}).spoil()
			profile.Counts(m, script, s, -1)
		}
		counts := roomyCounts(asked(t, x).counts)
		ahead := wholeCounts(counts)
		answer{lines: linesOf(t, m, counts), ops: opsOf(t, m, counts)}.spoil()
		refused(t, m, counts[1:], api.ErrArg)
		if !sameCounts(wholeCounts(counts), ahead) {
			t.Fatalf("R5: the counts are changed: %s", saidCounts(ahead))
		}
		if !sameModule(wholeModule(m), module) || !sameScript(wholeScript(script), replies) || !identical(wholeState(s), state) {
			t.Fatalf("R5: what is handed in is changed: %s", show(x.s))
		}
	}
}

// TestAnswersStay: what was answered stays, whatever is called later, and whatever becomes of what was handed in.
func TestAnswersStay(t *testing.T) {
	for _, x := range handed() {
		y := small{roomyModule(x.m), roomyScript(x.script), roomyState(x.s), x.steps}
		got := asked(t, y)
		want := got.copied()
		asked(t, y).spoil()
		counts := roomyCounts(got.counts)
		lines, ops := linesOf(t, y.m, counts), opsOf(t, y.m, counts)
		spoilCounts(counts)
		spoilState(y.s)
		spoilScript(y.script)
		spoilModule(y.m)
		if !sameAnswer(got, want) || !slices.Equal(lines, want.lines) || !slices.Equal(ops, want.ops) {
			t.Fatalf("R5: what was answered is changed: %s", code(x.m, 0))
		}
	}
}

// TestApart: no two answers share memory, spare room neither.
func TestApart(t *testing.T) {
	for _, x := range handed() {
		first, second := asked(t, x), asked(t, x)
		want := second.copied()
		first.spoil()
		if third := asked(t, x); !sameAnswer(second, want) || !sameAnswer(third, want) {
			t.Fatalf("R5: two answers share memory: %s", code(x.m, 0))
		}
		counts := second.counts // of one list of counts, too
		lines, ops := linesOf(t, x.m, counts), opsOf(t, x.m, counts)
		answer{lines: linesOf(t, x.m, counts), ops: opsOf(t, x.m, counts)}.spoil()
		if !slices.Equal(lines, want.lines) || !slices.Equal(ops, want.ops) || !sameCounts(counts, want.counts) {
			t.Fatalf("R5: two answers share memory: %s", code(x.m, 0))
		}
		lines2, ops2 := linesOf(t, x.m, counts), opsOf(t, x.m, counts)
		long, other := append(lines, profile.Line{Start: 77}), append(lines2, profile.Line{Start: 78})
		more, other2 := append(ops, 77), append(ops2, 78)
		if long[len(lines)].Start != 77 || other[len(lines)].Start != 78 || more[256] != 77 || other2[256] != 78 {
			t.Fatal("R5: two answers share their spare room")
		}
	}
}

// TestAlone: no two lists of an answer share memory, spare room neither.
func TestAlone(t *testing.T) {
	for _, x := range handed() {
		want := asked(t, x)
		for at := range lists(&want.s) {
			got := asked(t, x)
			spoil(*lists(&got.s)[at], 99)
			*lists(&got.s)[at] = slices.Clone(*lists(&want.s)[at])
			if !sameAnswer(got, want) {
				t.Fatalf("R5: the list %d of an answer shares memory with another one: %s", at, show(want.s))
			}
		}
		for at := range want.counts {
			got := asked(t, x)
			spoil(got.counts[at], 99)
			got.counts[at] = slices.Clone(want.counts[at])
			if !sameAnswer(got, want) {
				t.Fatalf("R5: the counts of the function %d share memory with another list", at)
			}
		}
		grownCounts(t, want.counts)
		grown(t, want.s)
	}
}

// grownCounts: what is put behind one list of counts is not seen behind another one, nor in it.
func grownCounts(t *testing.T, counts [][]int64) {
	t.Helper()
	ahead := clonedCounts(counts)
	var long [][]int64
	for at, list := range counts {
		long = append(long, append(list, int64(1000+at)))
	}
	for at, list := range long {
		if list[len(list)-1] != int64(1000+at) {
			t.Fatalf("R5: the spare room of the list %d is another one's, too", at)
		}
	}
	if !sameCounts(counts, ahead) {
		t.Fatalf("R5: the spare room of one list is another one: %s", saidCounts(counts))
	}
}

// grown: what is put behind one list of a state is not seen behind another one.
func grown(t *testing.T, s api.State) {
	t.Helper()
	var long [][]uint64
	for at, list := range lists(&s) {
		long = append(long, append(*list, uint64(1000+at)))
	}
	for at, list := range long {
		if list[len(list)-1] != uint64(1000+at) {
			t.Fatalf("R5: the spare room of the list %d is another one's, too: %s", at, show(s))
		}
	}
	var pages [][]byte
	for at, p := range s.Pages {
		pages = append(pages, append(p, byte(at+1)))
	}
	for at, p := range pages {
		if p[size] != byte(at+1) {
			t.Fatalf("R5: the spare room of the page %d is another one's, too", at)
		}
	}
}

// TestPagesAlone: each page of an answer is memory of its own, even where those that were handed in share theirs.
func TestPagesAlone(t *testing.T) {
	m := paged(3, 5, ">", "", "w.const:1 grow drop w.const:5 w.const:6 w.store8 end")
	s := begun(m)
	s.Pages[1], s.Pages[2] = s.Pages[0], s.Pages[0]
	for steps := range 9 {
		x := small{m, nil, s, steps}
		want := asked(t, x).copied()
		for at := range want.s.Pages {
			got := asked(t, x)
			spoil(got.s.Pages[at], 99)
			got.s.Pages[at] = slices.Clone(want.s.Pages[at])
			if !sameAnswer(got, want) || s.Pages[0][5] != 0 || s.Pages[0][99] != 0 {
				t.Fatalf("R5: the page %d shares memory with another one", at)
			}
		}
	}
}

// TestEmpty: a list that is nil and one without elements are the same.
func TestEmpty(t *testing.T) {
	m := of(">", "", "call:0 end")
	empty := api.State{Frames: []api.Frame{{Locals: []uint64{}, Stack: []uint64{}}}, Globals: []uint64{}, Pages: [][]byte{}, Results: []uint64{}, End: suspended}
	other := m
	other.Hosts, other.Globals, other.Data, other.Exports = []int{}, []api.Global{}, []api.Data{}, []api.Export{}
	for steps := range 70 {
		a, b := asked(t, small{other, []api.Reply{}, empty, steps}), asked(t, small{m, nil, begun(m), steps})
		if !sameAnswer(a, b) || a.s.End == 0 {
			t.Fatalf("R4: fuel %d: %s, not %s", steps, show(a.s), show(b.s))
		}
	}
}

package play_test

import (
	"math"
	"math/rand"
	"slices"
	"strings"
	"testing"

	"flagon/api"
	"flagon/play"
	"flagon/step"
)

// shows: are these the lines of that state, told with slashes between?
func shows(t *testing.T, s api.State, want string) {
	t.Helper()
	if got := strings.Join(play.Show(s), " / "); got != want {
		t.Errorf("P30.1: %s, not %s", got, want)
	}
}

// likewise: does Show tell of that state what this reading of the chapter has?
func likewise(t *testing.T, s api.State) {
	t.Helper()
	before := cloned(s)
	if got, want := play.Show(s), lines(s); !slices.Equal(got, want) {
		t.Fatalf("P30.1: %.300q, not %.300q", got, want)
	}
	if !identical(s, before) {
		t.Fatalf("R5: Show changed %s", show(before))
	}
}

func TestShowNothing(t *testing.T) {
	shows(t, api.State{}, "none used 0 / globals / pages 0 0")
	shows(t, api.State{Frames: []api.Frame{}, Globals: []uint64{}, Pages: [][]byte{}, Results: []uint64{}}, "none used 0 / globals / pages 0 0")
}

func TestShowSuspended(t *testing.T) {
	shows(t, api.State{End: suspended}, "suspended used 0 / globals / pages 0 0")
	shows(t, api.State{End: suspended, Frames: []api.Frame{{}}}, "suspended used 0 / frame 0 at 0 / locals / stack / globals / pages 0 0")
	shows(t, api.State{End: suspended, Used: 12, Frames: []api.Frame{{Function: 3, Pc: 14, Locals: []uint64{15}, Stack: []uint64{9, 2, 6}}}},
		"suspended used 12 / frame 3 at 14 / locals 15 / stack 9 2 6 / globals / pages 0 0")
	shows(t, api.State{End: suspended, Frames: []api.Frame{{Function: 1, Pc: 2, Locals: []uint64{3, 4}}, {Function: 5, Pc: 6, Stack: []uint64{7}}, {Pc: 8}}, Globals: []uint64{9, 10}},
		"suspended used 0 / frame 1 at 2 / locals 3 4 / stack / frame 5 at 6 / locals / stack 7 / frame 0 at 8 / locals / stack / globals 9 10 / pages 0 0")
	shows(t, deep(), "suspended used 77 / frame 0 at 1 / locals 3 4 / stack / frame 1 at 2 / locals 7 / stack 7 8 / globals 4294967295 18446744073709551615 9223372036854775808 / pages 2 0")
}

func TestShowEnded(t *testing.T) {
	shows(t, ended(halted), "halted used 77 / results 18446744073709551615 0 / globals 4294967295 18446744073709551615 9223372036854775808 / pages 2 0")
	shows(t, ended(trapped), "trapped used 77 / trap 2 / globals 4294967295 18446744073709551615 9223372036854775808 / pages 2 0")
	shows(t, api.State{End: halted, Used: 1}, "halted used 1 / results / globals / pages 0 0")
	shows(t, api.State{End: trapped, Used: 1}, "trapped used 1 / trap 0 / globals / pages 0 0")
	for trap := range int8(7) {
		shows(t, api.State{End: trapped, Trap: trap}, "trapped used 0 / trap "+string('0'+rune(trap))+" / globals / pages 0 0")
	}
}

// TestShowOthers: what no End gives a meaning is not told, and a state that may not be is told as it stands.
func TestShowOthers(t *testing.T) {
	all := api.State{Frames: []api.Frame{{Function: 1, Pc: 2}}, Globals: []uint64{3}, Pages: [][]byte{{4}}, Replies: 5, Results: []uint64{6}, Trap: 7, Used: 8}
	for end, want := range map[int8]string{
		0:             "none used 8 / globals 3 / pages 1 1",
		suspended:     "suspended used 8 / frame 1 at 2 / locals / stack / globals 3 / pages 1 1",
		halted:        "halted used 8 / results 6 / globals 3 / pages 1 1",
		trapped:       "trapped used 8 / trap 7 / globals 3 / pages 1 1",
		4:             "none used 8 / globals 3 / pages 1 1",
		-1:            "none used 8 / globals 3 / pages 1 1",
		math.MaxInt8:  "none used 8 / globals 3 / pages 1 1",
		math.MinInt8:  "none used 8 / globals 3 / pages 1 1",
		suspended + 4: "none used 8 / globals 3 / pages 1 1",
	} {
		all.End = end
		shows(t, all, want)
	}
	shows(t, api.State{End: suspended, Used: -5, Frames: []api.Frame{{Function: -1, Pc: math.MinInt64}}}, "suspended used -5 / frame -1 at -9223372036854775808 / locals / stack / globals / pages 0 0")
	shows(t, api.State{End: trapped, Trap: -128, Used: math.MinInt64}, "trapped used -9223372036854775808 / trap -128 / globals / pages 0 0")
	shows(t, api.State{End: trapped, Trap: 127, Used: math.MaxInt64}, "trapped used 9223372036854775807 / trap 127 / globals / pages 0 0")
	shows(t, api.State{End: suspended, Used: mostUsed, Frames: []api.Frame{{Function: math.MaxInt64, Pc: math.MaxInt64}}}, "suspended used 4611686018427387904 / frame 9223372036854775807 at 9223372036854775807 / locals / stack / globals / pages 0 0")
}

// TestShowValues: in each list, told without sign.
func TestShowValues(t *testing.T) {
	const told = " 0 1 9223372036854775807 9223372036854775808 9223372036854775809 18446744073709551615"
	list := []uint64{0, 1, 1<<63 - 1, 1 << 63, 1<<63 + 1, 1<<64 - 1}
	shows(t, api.State{End: halted, Results: list, Globals: list}, "halted used 0 / results"+told+" / globals"+told+" / pages 0 0")
	shows(t, api.State{End: suspended, Frames: []api.Frame{{Locals: list, Stack: list}}}, "suspended used 0 / frame 0 at 0 / locals"+told+" / stack"+told+" / globals / pages 0 0")
	for _, v := range edges() {
		likewise(t, api.State{End: suspended, Frames: []api.Frame{{Locals: []uint64{v}, Stack: []uint64{v, v}}}, Globals: []uint64{v}})
	}
}

// TestShowPages: each byte that is not 0 counts once, wherever it stands.
func TestShowPages(t *testing.T) {
	shows(t, api.State{Pages: blank(1)}, "none used 0 / globals / pages 1 0")
	shows(t, api.State{Pages: blank(64)}, "none used 0 / globals / pages 64 0")
	for _, at := range []int{0, 1, 4094, 4095} {
		for page := range 3 {
			s := api.State{Pages: blank(3)}
			s.Pages[page][at] = 1
			shows(t, s, "none used 0 / globals / pages 3 1")
			s.Pages[page][at] = 255
			s.Pages[2][7] = 128
			shows(t, s, "none used 0 / globals / pages 3 2")
		}
	}
	s := api.State{Pages: blank(64)}
	for _, p := range s.Pages {
		for at := range p {
			p[at] = byte(at%255 + 1)
		}
	}
	shows(t, s, "none used 0 / globals / pages 64 262144")
	shows(t, api.State{Pages: [][]byte{nil, {}, {0}, {1, 0, 2}}}, "none used 0 / globals / pages 4 2")
	shows(t, api.State{Pages: make([][]byte, 70)}, "none used 0 / globals / pages 70 0")
}

// TestShowRuns: of all states of all runs.
func TestShowRuns(t *testing.T) {
	for _, x := range runs() {
		s := x.s
		for range x.steps {
			likewise(t, s)
			var e api.Errno
			if s, e = step.Step(x.m, x.script, s); e != api.OK {
				t.Fatalf("P16.1: %d", e)
			}
		}
		likewise(t, s)
	}
}

func TestShowDrawn(t *testing.T) {
	r := rand.New(rand.NewSource(30))
	for range 400 {
		m := drawnModule(r)
		s := drawnState(r, m)
		likewise(t, s)
		damaged(r, &m, &s)
		likewise(t, s)
	}
}

// TestShowMemory: the answers are new memory, spare room too.
func TestShowMemory(t *testing.T) {
	s := deep()
	first, second := play.Show(s), play.Show(s)
	for _, list := range [][]string{first, first[:cap(first)]} {
		for at := range list {
			list[at] = "x"
		}
	}
	if !slices.Equal(second, lines(s)) || !slices.Equal(play.Show(s), lines(s)) {
		t.Error("R5: Show's answers share memory")
	}
}

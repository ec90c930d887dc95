package walk_test

import (
	"slices"
	"testing"

	"flagon/api"
	"flagon/frame"
	"flagon/walk"
)

// seen: the places that are told of a run, at most so many, and the state behind.
func seen(m api.Module, s api.State, steps int64, most int) ([]walk.Place, api.State, api.Errno) {
	var list []walk.Place
	end, e := walk.Run(m, nil, s, steps, func(p walk.Place) bool {
		if len(list) == most {
			return false
		}
		list = append(list, p)
		return true
	})
	return list, end, e
}

// TestRun: the places and the states of a call and what it calls, as far as the steps go and as far as they are looked at; the packages step and trace test the rest.
func TestRun(t *testing.T) {
	m := api.Module{Types: []api.Sig{{}}, Functions: []api.Function{{Code: []api.Ins{{Op: 0x0b, A: 1}, {Op: 0x06}}}, {Code: []api.Ins{{Op: 0x01}, {Op: 0x06}}}}} // call 1, end; nop, end
	begun := api.State{Frames: []api.Frame{{}}, End: api.Suspended}
	all := []walk.Place{{}, {Depth: 1, Function: 1}, {Depth: 1, Function: 1, Pc: 1}, {Pc: 1}}
	for _, x := range []struct {
		steps int64
		most  int
		made  int
		end   int8
	}{
		{-1, 9, 0, api.Suspended},
		{0, 9, 0, api.Suspended},
		{2, 9, 2, api.Suspended},
		{4, 9, 4, api.Halted},
		{100, 9, 4, api.Halted},
		{100, 3, 3, api.Suspended},
		{100, 0, 0, api.Suspended},
	} {
		list, s, e := seen(m, begun, x.steps, x.most)
		if e != api.OK || !slices.Equal(list, all[:x.made]) || s.End != x.end || s.Used != int64(x.made) {
			t.Errorf("%d steps, of which %d are looked at: %v, %+v, %d", x.steps, x.most, list, s, e)
		}
	}
	if s, e := walk.Run(m, nil, begun, 9, nil); e != api.OK || s.End != api.Halted || s.Used != 4 {
		t.Errorf("without a look: %+v, %d", s, e)
	}
	if list, s, e := seen(m, api.State{End: api.Halted}, 9, 9); e != api.OK || len(list) != 0 || s.End != api.Halted || s.Used != 0 {
		t.Errorf("of what has ended: %v, %+v, %d", list, s, e)
	}
	if list, s, e := seen(m, api.State{}, 9, 9); e != api.ErrState || len(list) != 0 || s.End != 0 {
		t.Errorf("of what may not be: %v, %+v, %d", list, s, e)
	}
	if list, s, e := seen(api.Module{Most: -1}, begun, 9, 9); e != api.ErrRange || len(list) != 0 || s.End != 0 {
		t.Errorf("of what may not run: %v, %+v, %d", list, s, e)
	}
}

// storing stores 7 at 4095 and grows by a page, of at most two.
func storing() (api.Module, api.State) {
	m := api.Module{Types: []api.Sig{{Results: "w"}}, First: 1, Most: 2, Functions: []api.Function{{Code: []api.Ins{{Op: 0x18, A: 4095}, {Op: 0x18, A: 7}, {Op: 0x26}, {Op: 0x18, A: 1}, {Op: 0x2b}, {Op: 0x06}}}}}
	return m, api.State{Frames: []api.Frame{{}}, Pages: [][]byte{make([]byte, api.Page)}, End: api.Suspended}
}

// TestWalk: a walk step by step: its places, its bytes, its states, which stay whatever the walk does later; behind its end it goes on no more.
func TestWalk(t *testing.T) {
	m, s := storing()
	w, e := walk.Begin(m, nil, s)
	if e != api.OK {
		t.Fatal(e)
	}
	var states []api.State
	for pc := range m.Functions[0].Code {
		if w.Ended() || w.Place() != (walk.Place{Pc: pc}) {
			t.Errorf("at %+v, not at %d", w.Place(), pc)
		}
		if want := byte(pc / 3 * 7); w.Byte(4095) != want || w.Byte(4094) != 0 || w.Byte(4096) != 0 || w.Byte(1<<32+4095) != 0 || w.Byte(1<<64-1) != 0 {
			t.Errorf("at %d: %d at 4095, not %d", pc, w.Byte(4095), want)
		}
		states = append(states, w.State())
		w.Step()
	}
	last := w.State()
	w.Step()
	if got := w.State(); !w.Ended() || w.Place() != (walk.Place{}) || !frame.Equal(got, last) || got.End != api.Halted || len(got.Pages) != 2 {
		t.Errorf("behind the end: %v", got.End)
	}
	for n, got := range append(states, last) {
		if want, e := walk.Run(m, nil, s, int64(n), nil); e != api.OK || !frame.Equal(got, want) || got.Used != int64(n) {
			t.Errorf("behind %d steps: %d", n, e)
		}
	}
	if s.Pages[0][4095] != 0 {
		t.Error("what is handed in is changed")
	}
}

// TestNone: what may not begin, and what Begin did not make.
func TestNone(t *testing.T) {
	m, s := storing()
	if w, e := walk.Begin(m, nil, api.State{}); w != nil || e != api.ErrState {
		t.Errorf("of what may not be: %d", e)
	}
	if w, e := walk.Begin(api.Module{Most: -1}, nil, s); w != nil || e != api.ErrRange {
		t.Errorf("of what may not run: %d", e)
	}
	for _, w := range []*walk.Walk{nil, {}} {
		w.Step()
		if !w.Ended() || w.Place() != (walk.Place{}) || w.Byte(0) != 0 || !frame.Equal(w.State(), api.State{}) {
			t.Error("it stands somewhere")
		}
	}
}

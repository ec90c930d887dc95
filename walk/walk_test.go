package walk_test

import (
	"slices"
	"testing"

	"flagon/api"
	"flagon/walk"
)

// seen: the places that are told of a run, at most so many, and the state behind.
func seen(m api.Module, s api.State, steps int64, most int) ([]walk.Place, api.State, api.Errno) {
	var list []walk.Place
	end, e := walk.Run(m, nil, s, steps, func(p walk.Place) bool {
		if len(list) == most {
			return false
		}
		list = append(list, p)
		return true
	})
	return list, end, e
}

// TestRun: the places and the states of a call and what it calls, as far as the steps go and as far as they are looked at; the packages step and trace test the rest.
func TestRun(t *testing.T) {
	m := api.Module{Types: []api.Sig{{}}, Functions: []api.Function{{Code: []api.Ins{{Op: 0x0b, A: 1}, {Op: 0x06}}}, {Code: []api.Ins{{Op: 0x01}, {Op: 0x06}}}}} // call 1, end; nop, end
	begun := api.State{Frames: []api.Frame{{}}, End: api.Suspended}
	all := []walk.Place{{}, {Depth: 1, Function: 1}, {Depth: 1, Function: 1, Pc: 1}, {Pc: 1}}
	for _, x := range []struct {
		steps int64
		most  int
		made  int
		end   int8
	}{
		{-1, 9, 0, api.Suspended},
		{0, 9, 0, api.Suspended},
		{2, 9, 2, api.Suspended},
		{4, 9, 4, api.Halted},
		{100, 9, 4, api.Halted},
		{100, 3, 3, api.Suspended},
		{100, 0, 0, api.Suspended},
	} {
		list, s, e := seen(m, begun, x.steps, x.most)
		if e != api.OK || !slices.Equal(list, all[:x.made]) || s.End != x.end || s.Used != int64(x.made) {
			t.Errorf("%d steps, of which %d are looked at: %v, %+v, %d", x.steps, x.most, list, s, e)
		}
	}
	if s, e := walk.Run(m, nil, begun, 9, nil); e != api.OK || s.End != api.Halted || s.Used != 4 {
		t.Errorf("without a look: %+v, %d", s, e)
	}
	if list, s, e := seen(m, api.State{End: api.Halted}, 9, 9); e != api.OK || len(list) != 0 || s.End != api.Halted || s.Used != 0 {
		t.Errorf("of what has ended: %v, %+v, %d", list, s, e)
	}
	if list, s, e := seen(m, api.State{}, 9, 9); e != api.ErrState || len(list) != 0 || s.End != 0 {
		t.Errorf("of what may not be: %v, %+v, %d", list, s, e)
	}
	if list, s, e := seen(api.Module{Most: -1}, begun, 9, 9); e != api.ErrRange || len(list) != 0 || s.End != 0 {
		t.Errorf("of what may not run: %v, %+v, %d", list, s, e)
	}
}

package ahead_test

import (
	"testing"

	"flagon/ahead"
	"flagon/api"
)

// TestRun: what is counted of codes of one segment, at each fuel; the packages fast and meter test the rest.
func TestRun(t *testing.T) {
	five := api.Module{Types: []api.Sig{{Results: "w"}}, Functions: []api.Function{{Code: []api.Ins{{Op: 0x18, A: 5}, {Op: 0x06}}}}}
	zero := five // w.const 1, w.const 0, w.divs, end
	zero.Functions = []api.Function{{Code: []api.Ins{{Op: 0x18, A: 1}, {Op: 0x18}, {Op: 0x3d}, {Op: 0x06}}}}
	begun := api.State{Frames: []api.Frame{{}}, End: api.Suspended}
	for _, x := range []struct {
		m    api.Module
		fuel int64
		end  int8
		want ahead.Counts
	}{
		{five, 0, api.Suspended, ahead.Counts{Asked: 2, Entered: 1}},
		{five, 1, api.Suspended, ahead.Counts{Asked: 3, Paid: 1, Entered: 1}},
		{five, 2, api.Halted, ahead.Counts{Asked: 1, Paid: 2, Entered: 1}},
		{zero, 2, api.Suspended, ahead.Counts{Asked: 4, Paid: 2, Entered: 1}},
		{zero, 3, api.Trapped, ahead.Counts{Asked: 4, Paid: 3, Entered: 1}},
		{zero, 4, api.Trapped, ahead.Counts{Asked: 1, Paid: 4, Back: 1, Entered: 1}},
	} {
		if s, c, e := ahead.Run(x.m, nil, begun, x.fuel); e != api.OK || s.End != x.end || s.Used != c.Paid-c.Back || c != x.want {
			t.Errorf("fuel %d: %+v, %+v, %d", x.fuel, s, c, e)
		}
	}
	if s, c, e := ahead.Run(five, nil, begun, -1); e != api.ErrFuel || c != (ahead.Counts{}) || s.End != 0 {
		t.Errorf("fuel -1: %+v, %+v, %d", s, c, e)
	}
}

package debug_test

import (
	"fmt"
	"math"
	"testing"

	"flagon/api"
)

// span: n bytes from at on.
type span struct{ at, n int }

// spans that may be watched, and spans that may not.
func spans() (good, bad []span) {
	for _, at := range []int{0, 1, 63, 64, size - 1, size, 64*size - 1, 64 * size, math.MaxInt32, 1 << 31, mostAt - 64, mostAt - 1, mostAt} {
		for _, n := range []int{1, 2, 8, 63, 64} {
			good = append(good, span{at, n})
		}
		for _, n := range []int{0, -1, 65, 66, 128, 256, 1 << 32, 1<<32 + 1, 1<<62 + 1, -1 << 32, math.MinInt, math.MaxInt} {
			bad = append(bad, span{at, n})
		}
	}
	for _, at := range []int{-1, -2, -64, -size, math.MinInt32, -1 << 32, math.MinInt + 1, math.MinInt, mostAt + 1, mostAt + 64, 1 << 33, 1 << 62, math.MaxInt - 63, math.MaxInt} {
		for _, n := range []int{1, 64, 0, 65, -1} {
			bad = append(bad, span{at, n})
		}
	}
	return good, bad
}

// TestWatchable: what may be watched, and ErrArg of what may not; that changes nothing.
func TestWatchable(t *testing.T) {
	good, bad := spans()
	d := bugged(t, storing(), nil, begun(storing()))
	for _, x := range good {
		watches(t, d, x.at, x.n)
	}
	for _, x := range bad {
		if e := d.Watch(x.at, x.n); e != api.ErrArg {
			t.Errorf("P28.3: Watch%d: %d", x, e)
		}
	}
	for _, x := range bad {
		d := bugged(t, storing(), nil, begun(storing()))
		d.Watch(x.at, x.n)
		stops(t, d, 99, over, 5)
		goes(t, d, 5, 5, 0)
		watches(t, d, 8, 1)
		d.Watch(x.at, x.n)
		stops(t, d, 99, watched, 3)
	}
}

// TestEachSpan: a store of eight bytes, three of which are as they were: it is told just if one of the others is watched.
func TestEachSpan(t *testing.T) {
	m := paged(1, 1, ">", "", "nop w.const:16 l.const:72057598383227137 l.store:4 nop end") // 1, 1, 0, 3, 1, 0, 0, 1, the lowest byte first
	s := begun(m)
	for at, b := range []byte{9, 1, 0, 5, 1, 1, 0, 1} {
		s.Pages[0][20+at] = b
	}
	changes := map[int]bool{20: true, 23: true, 25: true}
	for at := range 40 {
		for n := 1; n <= mostBytes; n++ {
			want, used := int8(over), int64(6)
			for k := range n {
				if changes[at+k] {
					want, used = watched, 4
				}
			}
			d := bugged(t, m, nil, s)
			watches(t, d, at, n)
			stops(t, d, 99, want, used)
			if want == watched {
				stands(t, d, "suspended used 4 frame 0 at 4 locals stack pages 1 5")
				stops(t, d, 99, over, 6)
			}
		}
	}
}

// TestWidths: each store changes as many bytes as it moves.
func TestWidths(t *testing.T) {
	for word, n := range map[string]int{"w.store8": 1, "w.store16": 2, "w.store": 4, "l.store": 8} {
		m := paged(1, 1, ">", "", "w.const:100 "+word[:1]+".const:-1 "+word+" end")
		for at := 90; at < 115; at++ {
			d := bugged(t, m, nil, begun(m))
			watches(t, d, at, 1)
			want, used := int8(over), int64(4)
			if at >= 100 && at < 100+n {
				want, used = watched, 3
			}
			stops(t, d, 99, want, used)
		}
	}
}

// TestAsItWas: a byte that is stored as it was is not told; one that becomes what it was ahead of the run is.
func TestAsItWas(t *testing.T) {
	store := func(v int) string { return fmt.Sprint("w.const:8 w.const:", v, " w.store8 ") }
	m := paged(1, 1, ">", "", store(0)+store(7)+store(7)+store(263)+store(0)+store(0)+store(7)+"end")
	d := bugged(t, m, nil, begun(m))
	watches(t, d, 8, 1)
	for range 2 {
		stops(t, d, 99, watched, 6)
		stops(t, d, 99, watched, 15)
		stops(t, d, 99, watched, 21)
		stops(t, d, 99, over, 22)
		goes(t, d, 99, 22, 0)
	}
}

// TestEdges: bytes at both sides of a page's edge, by a store that goes across it.
func TestEdges(t *testing.T) {
	m := paged(2, 2, ">", "", "w.const:4092 l.const:-1 l.store end")
	for at := size - 70; at < size+10; at++ {
		for _, n := range []int{1, 2, 3, 64} {
			d := bugged(t, m, nil, begun(m))
			watches(t, d, at, n)
			want, used := int8(over), int64(4)
			if at < size+4 && at+n > size-4 {
				want, used = watched, 3
			}
			stops(t, d, 99, want, used)
		}
	}
	last := paged(64, 64, ">", "", "w.const:-262145 w.const:-1 w.xor w.const:1 w.sub w.const:-1 w.store8 end") // the address 2^18 - 1
	for _, x := range []struct {
		span
		want int8
	}{{span{64*size - 1, 1}, watched}, {span{64*size - 1, 64}, watched}, {span{64*size - 64, 64}, watched}, {span{64*size - 65, 64}, over}, {span{64 * size, 64}, over}} {
		d := bugged(t, last, nil, begun(last))
		watches(t, d, x.at, x.n)
		if why, e := d.Run(99); why != x.want || e != api.OK {
			t.Errorf("P28.4: Watch%d: %d, %d: %s", x.span, why, e, show(state(t, d)))
		}
	}
}

// TestBeyond: a byte beyond the memory is as good as 0: the memory may grow into it, and it is told where it becomes another one.
func TestBeyond(t *testing.T) {
	m := paged(1, 3, ">", "", "w.const:1 grow drop w.const:4096 w.const:0 w.store8 w.const:4096 w.const:7 w.store8 w.const:1 grow drop w.const:4096 w.const:0 w.store8 end")
	s := begun(m)
	for at := range s.Pages[0] {
		s.Pages[0][at] = 255
	}
	for _, x := range []span{{4096, 1}, {4096, 64}, {4090, 7}, {4090, 64}, {4033, 64}} {
		d := bugged(t, m, nil, s)
		watches(t, d, x.at, x.n)
		for range 2 {
			stops(t, d, 2, fuelled, 2)
			stops(t, d, 99, watched, 9)
			stops(t, d, 99, watched, 15)
			stops(t, d, 99, over, 16)
			goes(t, d, 16, 16, 0)
		}
	}
	for _, x := range []span{{4097, 64}, {4032, 64}, {2 * size, 64}, {3*size - 32, 64}, {3 * size, 64}, {64 * size, 64}} {
		d := bugged(t, m, nil, s)
		watches(t, d, x.at, x.n)
		stops(t, d, 99, over, 16)
	}
}

// TestFar: what is watched near 2^32 is beyond every memory, and no byte at its beginning.
func TestFar(t *testing.T) {
	m := paged(64, 64, ">", "", "w.const:0 l.const:-1 l.store w.const:8 l.const:-1 l.store end")
	for _, at := range []int{mostAt, mostAt - 1, mostAt - 32, mostAt - 63, mostAt - 64, 1 << 31, 1<<31 - 1, 1 << 18, 1 << 16 * 5} {
		d := bugged(t, m, nil, begun(m))
		watches(t, d, at, mostBytes)
		stops(t, d, 99, over, 7)
	}
	var none api.Module // without a memory
	put(&none, ">", "", "nop end")
	d := bugged(t, none, nil, begun(none))
	watches(t, d, 0, mostBytes)
	stops(t, d, 99, over, 2)
}

// TestSecond: a second Watch takes the first one's place, and Unwatch takes all.
func TestSecond(t *testing.T) {
	store := func(at int) string { return fmt.Sprint("w.const:", at, " w.const:7 w.store8 ") }
	m := paged(1, 1, ">", "", store(8)+store(9)+store(30)+store(10)+"end")
	d := bugged(t, m, nil, begun(m))
	watches(t, d, 8, 64)
	watches(t, d, 9, 1)
	stops(t, d, 99, watched, 6)
	stops(t, d, 99, over, 13)
	goes(t, d, 13, 13, 0)
	watches(t, d, 8, 2)
	stops(t, d, 4, watched, 3)
	stops(t, d, 99, watched, 6)
	watches(t, d, 20, 20)
	stops(t, d, 99, watched, 9)
	d.Unwatch()
	stops(t, d, 99, over, 13)
	d.Unwatch()
	goes(t, d, 13, 13, 0)
	stops(t, d, 99, over, 13)
	goes(t, d, 13, 13, 0)
	watches(t, d, 9, 2)
	stops(t, d, 99, watched, 6)
	stops(t, d, 99, watched, 12)
	stops(t, d, 99, over, 13)
}

// TestFromNowOn: what changed ahead of a Run, or by going back, is not told by it.
func TestFromNowOn(t *testing.T) {
	d := bugged(t, storing(), nil, begun(storing()))
	stops(t, d, 3, fuelled, 3)
	watches(t, d, 8, 1)
	stops(t, d, 1, fuelled, 4)
	goes(t, d, 2, 2, 2)
	stops(t, d, 0, fuelled, 2)
	stops(t, d, 1, watched, 3)
	goes(t, d, 3, 3, 0)
	stops(t, d, 2, fuelled, 2)
	stops(t, d, 99, watched, 3)
	stops(t, d, 0, fuelled, 3)
	stops(t, d, 99, over, 5)
}

// TestBoth: where a watched byte changes and a breakpoint is reached by one step, Watch is told; the next Run executes the instruction at the breakpoint.
func TestBoth(t *testing.T) {
	d := bugged(t, storing(), nil, begun(storing()))
	watches(t, d, 8, 1)
	breaks(t, d, [2]int{0, 3}, [2]int{0, 4})
	stops(t, d, 99, watched, 3)
	stops(t, d, 99, broke, 4)
	stops(t, d, 99, over, 5)
	goes(t, d, 5, 5, 0)
	stops(t, d, 3, watched, 3) // and not Fuel
	d.Unwatch()
	goes(t, d, 3, 3, 0)
	stops(t, d, 99, broke, 3)
	stops(t, d, 99, broke, 4)
}

// TestAtEnd: Ended is told of the step that ends the run, whatever is watched; what a trapping store would have changed is not changed.
func TestAtEnd(t *testing.T) {
	m := paged(1, 1, ">", "", "w.const:8 w.const:7 w.store8 end")
	d := bugged(t, m, nil, begun(m))
	watches(t, d, 0, 64)
	breaks(t, d, [2]int{0, 0}, [2]int{0, 3})
	stops(t, d, 99, watched, 3)
	stops(t, d, 99, over, 4)
	refuses(t, d, 99, api.ErrDone)
	stands(t, d, "halted used 4 results pages 1 1")
	m = paged(1, 1, ">", "", "w.const:4093 w.const:-1 w.store nop end")
	d = bugged(t, m, nil, begun(m))
	watches(t, d, size-8, 64)
	breaks(t, d, [2]int{0, 3})
	stops(t, d, 99, over, 3)
	stands(t, d, "trapped used 3 trap 2 pages 1 0")
}

// TestRounds: a loop that stores the same two bytes for ever, one of which changes each time.
func TestRounds(t *testing.T) {
	m := paged(1, 1, ">", "", "loop:> w.const:8 w.const:8 w.load16u w.const:1 w.add w.store16 br:0 end end")
	d := bugged(t, m, nil, begun(m))
	watches(t, d, 9, 1) // the upper one, which changes each 256 rounds
	for k := range int64(9) {
		stops(t, d, 9999, watched, 7*256*(k+1))
	}
	watches(t, d, 8, 1)
	stops(t, d, 9999, watched, 7*256*9+7)
	stops(t, d, 3, fuelled, 7*256*9+10)
	stops(t, d, 9999, watched, 7*256*9+14)
	goes(t, d, 8, 8, 7*256*9+6)
	watches(t, d, 9, 1)
	stops(t, d, 9999, watched, 7*256*10)
}

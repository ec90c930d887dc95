package fast_test

import (
	"fmt"
	"strings"
	"testing"

	"flagon/api"
	"flagon/lower"
)

// The places of a pc in its segment.
const (
	beginning = "beginning"
	midst     = "midst"
	last      = "last"
	alone     = "alone" // the beginning, and the last one, too
	over      = "over"  // the run has ended
)

const endless = 30 // steps that are looked at of the one small run that does not end

// stands: at which place of a segment the last frame stands.
func stands(t *testing.T, m api.Module, s api.State) string {
	t.Helper()
	if s.End != suspended {
		return over
	}
	f := s.Frames[len(s.Frames)-1]
	lines, e := lower.Function(m, f.Function)
	if e != api.OK {
		t.Fatalf("%s: %d", code(m, f.Function), e)
	}
	switch x := lines[f.Pc]; {
	case x.Start == f.Pc && x.Left == 1:
		return alone
	case x.Start == f.Pc:
		return beginning
	case x.Left == 1:
		return last
	}
	return midst
}

// segmented are runs through codes of more than one segment of sixteen, branches back, calls, hosts and a memory between them.
func segmented() []small {
	add := "get:0 w.const:1 w.add set:0 "
	straight := of("w>w", "", strings.Repeat(add, 10)+"get:0 end")
	loop := of("w>w", "", "loop:> "+strings.Repeat("get:0 w.const:-1 w.add set:0 ", 5)+"get:0 brif:0 end w.const:7 end")
	tail := of("w>w", "", "get:0 if:> "+add+"nop*15 get:0 w.const:100 w.sub call:0 set:0 nop*17 else nop*3 end get:0 nop*16 end")
	hosts := of("w>w", "", "get:0 nop*14 host:0 nop*15 host:0 nop*16 host:0 nop*17 end")
	hosts.Hosts = []int{kind(&hosts, "w>w")}
	memory := paged(1, 3, "w>w", "w", "nop*9 loop:> get:1 l.const:-1 l.store:3 get:1 w.const:4090 w.add tee:1 get:0 w.ltu if:> w.const:1 grow drop br:1 end end size end")
	table := of("w>w", "", "block:> block:> block:> nop*18 get:0 brtable:0,1,2 end nop*2 br:1 end nop*3 w.const:9 return end nop*4 w.const:8 nop*12 end")
	script := []api.Reply{{Results: numbers("5")}, {Results: numbers("6")}, {Results: numbers("7")}}
	list := []small{
		{straight, nil, begun(straight, 4), 42},
		{loop, nil, begun(loop, 15), 70},
		{tail, nil, begun(tail, 99), 87},
		{hosts, script, begun(hosts, 1), 67},
		{hosts, script[:2], begun(hosts, 1), 49},
		{memory, nil, begun(memory, 12000), 52},
		{memory, nil, begun(memory, 20000), 69},
	}
	for at := range uint64(4) {
		list = append(list, small{table, nil, begun(table, at), []int{44, 28, 41, 41}[at]})
	}
	return list
}

// TestSegments: every fuel of runs through more than one segment of sixteen, from each state on their way: in the midst of a segment, too, at its last instruction, in a frame that was called.
func TestSegments(t *testing.T) {
	t.Parallel()
	from, to := map[string]int{}, map[string]int{}
	called := 0
	for _, x := range append(segmented(), smalls()...) {
		way := single(t, x.m, x.script, x.s, x.steps+1)
		if end := way[len(way)-1]; len(way) != x.steps+1 && x.steps != endless {
			t.Errorf("%s: %d steps, not %d: %s", code(x.m, 0), len(way)-1, x.steps, show(end))
		}
		for at, s := range way[:len(way)-1] {
			from[stands(t, x.m, s)]++
			called += min(len(s.Frames)-1, 1)
			for fuel := range len(way) - at {
				got, _ := beside(t, x.m, x.script, s, int64(fuel))
				if want := way[at+fuel]; !identical(got, want) {
					t.Fatalf("W1: %s, fuel %d from %s: %s, not %s", code(x.m, 0), fuel, show(s), show(got), show(want))
				}
			}
			to[stands(t, x.m, way[at+1])]++
		}
	}
	for _, place := range []string{beginning, midst, last, alone} {
		if from[place] < 10 || to[place] < 10 {
			t.Errorf("%s: %d runs that begin there, %d that end there", place, from[place], to[place])
		}
	}
	if to[over] < 10 || called < 100 {
		t.Errorf("%d runs that end, %d that begin in a frame that was called", to[over], called)
	}
}

// TestStraight: codes of each length up to some segments, and as long as a code can be: the fuel ends at each pc.
func TestStraight(t *testing.T) {
	for count := range 70 {
		m := of(">", "", fmt.Sprint("nop*", count, " end"))
		for fuel := range int64(count + 1) {
			comes(t, m, nil, begun(m), fuel, fmt.Sprint("suspended used ", fuel, " frame 0 at ", fuel, " locals stack"))
		}
		ends(t, m, nil, begun(m), int64(count+1), fmt.Sprint("halted used ", count+1, " results"))
	}
	m := of("w>w", "", "get:0 w.clz nop*2045 end")
	for _, fuel := range []int64{2, 15, 16, 17, 31, 32, 33, 1023, 1024, 1025, 2031, 2032, 2033, 2046, 2047} {
		comes(t, m, nil, begun(m, 1), fuel, fmt.Sprint("suspended used ", fuel, " frame 0 at ", fuel, " locals 1 stack 31"))
	}
	ends(t, m, nil, begun(m, 1), 2048, "halted used 2048 results 31")
}

// TestBegun: a run begins at each pc of a straight code, and goes on to each one behind it.
func TestBegun(t *testing.T) {
	m := of(">", "", "nop*50 end")
	for pc := range 51 {
		s := begun(m)
		s.Frames[0].Pc, s.Used = pc, 1000
		for fuel := range 51 - pc {
			comes(t, m, nil, s, int64(fuel), fmt.Sprint("suspended used ", 1000+fuel, " frame 0 at ", pc+fuel, " locals stack"))
		}
		ends(t, m, nil, s, int64(51-pc), fmt.Sprint("halted used ", 1051-pc, " results"))
	}
}

// TestRounds: loops of each length up to some segments, whose segments are entered again and again, with each fuel.
func TestRounds(t *testing.T) {
	for count := range 40 {
		m := of("w>w", "", fmt.Sprint("loop:> nop*", count, " get:0 w.const:1 w.sub tee:0 brif:0 end w.const:7 end"))
		for rounds := range 4 {
			steps := (rounds+1)*(count+5) + 4
			s := begun(m, uint64(rounds+1))
			for fuel := 1; fuel <= steps-4; fuel++ {
				round, more := (fuel-1)/(count+5), (fuel-1)%(count+5)
				left := rounds + 1 - round
				stack := ""
				if more > count {
					stack = []string{fmt.Sprint(" ", left), fmt.Sprint(" ", left, " 1"), fmt.Sprint(" ", left-1), fmt.Sprint(" ", left-1)}[more-count-1]
				}
				if more == count+4 {
					left--
				}
				comes(t, m, nil, s, int64(fuel), fmt.Sprint("suspended used ", fuel, " frame 0 at ", 1+more, " locals ", left, " stack", stack))
			}
			ends(t, m, nil, s, int64(steps), fmt.Sprint("halted used ", steps, " results 7"))
		}
	}
}

// TestWaiting: frames below the last go on behind their calls, wherever in a segment these stand, and whichever frame the run began in.
func TestWaiting(t *testing.T) {
	for count := range 20 {
		m := of("w>w", "", fmt.Sprint("nop*", count, " get:0 call:1 w.const:1 w.add nop*", count, " end"))
		put(&m, "w>w", "", fmt.Sprint("get:0 call:2 w.const:10 w.mul nop*", count, " end"))
		put(&m, "w>w", "", fmt.Sprint("nop*", count, " w.const:100 get:0 w.sub return end"))
		s := begun(m)
		s.Frames = []api.Frame{{Pc: count + 1, Locals: numbers("5")}, {Function: 1, Pc: 1, Locals: numbers("6")}, {Function: 2, Pc: count + 2, Locals: numbers("7"), Stack: numbers("100 7")}}
		ends(t, m, nil, s, int64(2*count+8), fmt.Sprint("halted used ", 2*count+8, " results 931"))
		comes(t, m, nil, s, 2, fmt.Sprint("suspended used 2 frame 0 at ", count+1, " locals 5 stack frame 1 at 2 locals 6 stack 93"))
		comes(t, m, nil, s, int64(count+5), fmt.Sprint("suspended used ", count+5, " frame 0 at ", count+2, " locals 5 stack 930"))
		every(t, small{m, nil, s, 2*count + 8})
		every(t, small{m, nil, begun(m, 5), 4*count + 14})
	}
}

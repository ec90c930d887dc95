package meter_test

import (
	"fmt"
	"math"
	"strings"
	"testing"

	"flagon/api"
	"flagon/text"
)

// rows: counts of a run that ends, told by hand: those of each fuel from 0 on, a semicolon between them; the last ones are those of all that is more, too.
func rows(t *testing.T, engine int8, m api.Module, script []api.Reply, s api.State, want string) {
	t.Helper()
	list := strings.Split(want, "; ")
	for fuel, row := range list {
		counts(t, engine, m, script, s, int64(fuel), row)
	}
	for _, more := range []int64{1, 2, 16, 1 << 31, 1 << 32, 1 << 62, math.MaxInt64 - 20} {
		counts(t, engine, m, script, s, int64(len(list)-1)+more, list[len(list)-1])
	}
}

// quickly: the rows of the engine that pays for whole segments; those of the other one follow from the steps to the run's end.
func quickly(t *testing.T, m api.Module, script []api.Reply, s api.State, steps int64, want string) {
	t.Helper()
	rows(t, byFast, m, script, s, want)
	var list []string
	for fuel := range steps {
		list = append(list, slowly(fuel, true))
	}
	rows(t, bySlow, m, script, s, strings.Join(append(list, slowly(steps, false)), "; "))
}

// TestExamples: the chapter's, every row.
func TestExamples(t *testing.T) {
	five := of(">w", "", "w.const:5 end")
	for at, fuel := range []int64{0, 1, 2, 9} {
		counts(t, bySlow, five, nil, begun(five), fuel, []string{"0 1 0 0 0", "1 2 1 0 0", "2 2 2 0 0", "2 2 2 0 0"}[at])
		counts(t, byFast, five, nil, begun(five), fuel, []string{"0 2 0 0 1", "1 3 1 0 1", "2 1 2 0 1", "2 1 2 0 1"}[at])
		comes(t, five, nil, begun(five), fuel, []string{"suspended used 0 frame 0 at 0 locals stack", "suspended used 1 frame 0 at 1 locals stack 5", "halted used 2 results 5", "halted used 2 results 5"}[at])
	}
	trap := of(">", "", "trap end")
	counts(t, byFast, trap, nil, begun(trap), 9, "1 1 1 0 1")
	counts(t, bySlow, trap, nil, begun(trap), 9, "1 1 1 0 0")
	comes(t, trap, nil, begun(trap), 9, "trapped used 1 trap 1")
}

// TestRows: codes of several segments, every fuel. Segments stand in brackets.
func TestRows(t *testing.T) {
	for _, x := range []struct {
		sig, code string
		steps     int64
		want      string
	}{
		// [end]
		{">", "end", 1, "0 2 0 0 1; 1 1 1 0 1"},
		// [w.const return] [end]
		{">w", "w.const:5 return end", 2, "0 2 0 0 1; 1 3 1 0 1; 2 1 2 0 1"},
		// [w.const w.const brif] [nop end]: taken, out of the function, and not taken
		{">w", "w.const:5 w.const:1 brif:0 nop end", 3, "0 2 0 0 1; 1 3 1 0 1; 2 4 2 0 1; 3 1 3 0 1"},
		{">w", "w.const:5 w.const:0 brif:0 nop end", 5, "0 2 0 0 1; 1 3 1 0 1; 2 4 2 0 1; 3 3 3 0 2; 4 4 4 0 2; 5 2 5 0 2"},
		// [w.const if] [nop else] [nop nop] [end] [end]: one way, and the other one
		{">", "w.const:1 if:> nop else nop nop end end", 6, "0 2 0 0 1; 1 3 1 0 1; 2 3 2 0 2; 3 4 3 0 2; 4 4 4 0 3; 5 5 5 0 4; 6 4 6 0 4"},
		{">", "w.const:0 if:> nop else nop nop end end", 6, "0 2 0 0 1; 1 3 1 0 1; 2 3 2 0 2; 3 4 3 0 2; 4 4 4 0 3; 5 5 5 0 4; 6 4 6 0 4"},
		// [w.const if] [nop] [end] [end], the nop not executed: what leads there goes to the end that is a beginning
		{">", "w.const:0 if:> nop end end", 4, "0 2 0 0 1; 1 3 1 0 1; 2 3 2 0 2; 3 4 3 0 3; 4 3 4 0 3"},
		{">", "w.const:1 if:> nop end end", 5, "0 2 0 0 1; 1 3 1 0 1; 2 3 2 0 2; 3 4 3 0 3; 4 5 4 0 4; 5 4 5 0 4"},
		// [block block nop br] [end] [nop br] [end] [end]: over what is behind it
		{">", "block:> block:> nop br:1 end nop br:0 end end", 5, "0 2 0 0 1; 1 3 1 0 1; 2 4 2 0 1; 3 5 3 0 1; 4 3 4 0 2; 5 2 5 0 2"},
		// [w.const w.const w.divs end]: a trap in the midst; with a fuel of 3 the segment is paid one by one up to it
		{">w", "w.const:1 w.const:0 w.divs end", 3, "0 2 0 0 1; 1 3 1 0 1; 2 4 2 0 1; 3 4 3 0 1; 3 1 4 1 1"},
		// [w.const w.const loop] [w.divs nop end] [end]: at a segment's first instruction
		{">w", "w.const:1 w.const:0 loop:ww>w w.divs nop end end", 4, "0 2 0 0 1; 1 3 1 0 1; 2 4 2 0 1; 3 3 3 0 2; 4 3 4 0 2; 4 3 4 0 2; 4 2 6 2 2"},
		// [w.const w.const trap] [end]: at the last one
		{">", "w.const:1 w.const:0 trap end", 3, "0 2 0 0 1; 1 3 1 0 1; 2 4 2 0 1; 3 1 3 0 1"},
		// [w.const w.const host] [end], without a reply
		{">", "w.const:1 w.const:0 host:0 end", 3, "0 2 0 0 1; 1 3 1 0 1; 2 4 2 0 1; 3 1 3 0 1"},
	} {
		var m api.Module
		m.Hosts = []int{kind(&m, "ww>")}
		put(&m, x.sig, "", x.code)
		quickly(t, m, nil, begun(m), x.steps, x.want)
	}
}

// TestCalls: the segments of the functions called, and of those that go on behind them.
func TestCalls(t *testing.T) {
	m := of("w>w", "", "get:0 call:1 w.const:1 w.add end") // [get call] [w.const w.add end]
	put(&m, "w>w", "l", "get:0 get:0 w.mul call:2 end")    // [get get w.mul call] [end]
	put(&m, "w>w", "", "w.const:100 get:0 w.divu end")     // [w.const get w.divu end]
	ahead := "0 2 0 0 1; 1 3 1 0 1; 2 3 2 0 2; 3 4 3 0 2; 4 5 4 0 2; 5 6 5 0 2; 6 4 6 0 3; 7 5 7 0 3; 8 6 8 0 3; "
	quickly(t, m, nil, begun(m, 5), 14, ahead+"9 7 9 0 3; 10 5 10 0 4; 11 6 11 0 5; 12 7 12 0 5; 13 8 13 0 5; 14 5 14 0 5")
	quickly(t, m, nil, begun(m, 0), 9, ahead+"9 6 9 0 3; 9 3 10 1 3") // w.divu traps, and the end behind it is given back
	s := begun(m)
	s.Frames = []api.Frame{{Pc: 1, Locals: numbers("5")}, {Function: 1, Pc: 3, Locals: numbers("5 0")}, {Function: 2, Pc: 2, Locals: numbers("25"), Stack: numbers("100 25")}}
	quickly(t, m, nil, s, 6, "0 2 0 0 1; 1 3 1 0 1; 2 3 2 0 2; 3 4 3 0 3; 4 5 4 0 3; 5 6 5 0 3; 6 3 6 0 3")
}

// TestDeepest: calls without end: 63 that are executed, and one that traps; each is a segment of its own.
func TestDeepest(t *testing.T) {
	m := of(">", "", "call:0 end")
	for fuel := range int64(64) {
		counts(t, byFast, m, nil, begun(m), fuel, fmt.Sprint(fuel, " ", fuel+2, " ", fuel, " 0 ", fuel+1))
		counts(t, bySlow, m, nil, begun(m), fuel, slowly(fuel, true))
	}
	for _, fuel := range []int64{64, 65, 100, math.MaxInt64} {
		counts(t, byFast, m, nil, begun(m), fuel, "64 64 64 0 64")
		counts(t, bySlow, m, nil, begun(m), fuel, slowly(64, false))
	}
}

// straight: what is counted of a code without branches, of so many instructions, from that pc on.
func straight(length, pc, fuel int64) string {
	executed, entered := int64(0), int64(0)
	for pc < length {
		left := min(block-pc%block, length-pc)
		entered++
		if fuel < left {
			return fmt.Sprint(executed+fuel, " ", entered+fuel+1, " ", executed+fuel, " 0 ", entered)
		}
		pc, fuel, executed = pc+left, fuel-left, executed+left
	}
	return fmt.Sprint(executed, " ", entered, " ", executed, " 0 ", entered)
}

// TestStraight: codes of each length up to some segments of sixteen, and as long as a code can be: the fuel ends at each pc.
func TestStraight(t *testing.T) {
	for length := int64(1); length <= 70; length++ {
		m := of(">", "", fmt.Sprint("nop*", length-1, " end"))
		for fuel := int64(0); fuel <= length+17; fuel++ {
			counts(t, byFast, m, nil, begun(m), fuel, straight(length, 0, fuel))
			counts(t, bySlow, m, nil, begun(m), fuel, slowly(min(fuel, length), fuel < length))
		}
	}
	m := of(">", "", "nop*2047 end")
	for _, fuel := range []int64{0, 1, 15, 16, 17, 31, 32, 33, 1023, 1024, 1025, 2031, 2032, 2033, 2046, 2047, 2048, 2049, math.MaxInt64} {
		counts(t, byFast, m, nil, begun(m), fuel, straight(2048, 0, fuel))
	}
	counts(t, byFast, m, nil, begun(m), 2048, "2048 128 2048 0 128")
	counts(t, byFast, m, nil, begun(m), 2047, "2047 144 2047 0 128")
	counts(t, byFast, m, nil, begun(m), 2032, "2032 129 2032 0 128")
}

// TestBegun: a run begins at each pc of a code of several segments of sixteen: what is left of the segment is asked, and paid.
func TestBegun(t *testing.T) {
	m := of(">", "", "nop*50 end")
	for pc := range 51 {
		s := begun(m)
		s.Frames[0].Pc = pc
		for fuel := range int64(60) {
			counts(t, byFast, m, nil, s, fuel, straight(51, int64(pc), fuel))
			counts(t, bySlow, m, nil, s, fuel, slowly(min(fuel, int64(51-pc)), fuel < int64(51-pc)))
		}
	}
	s := begun(m)
	s.Frames[0].Pc = 15 // the last one of its segment
	for fuel, want := range map[int64]string{0: "0 2 0 0 1", 1: "1 3 1 0 2", 2: "2 4 2 0 2", 16: "16 18 16 0 2", 17: "17 4 17 0 3", 36: "36 4 36 0 4"} {
		counts(t, byFast, m, nil, s, fuel, want)
	}
}

// TestEnds: fuel that ends at a segment's beginning, in its midst, and at its end: of sixteen, sixteen and two.
func TestEnds(t *testing.T) {
	m := of(">", "", "nop*33 end")
	for fuel, want := range map[int64]string{
		0: "0 2 0 0 1", 1: "1 3 1 0 1", 8: "8 10 8 0 1", 15: "15 17 15 0 1",
		16: "16 3 16 0 2", 17: "17 4 17 0 2", 31: "31 18 31 0 2",
		32: "32 4 32 0 3", 33: "33 5 33 0 3", 34: "34 3 34 0 3", 35: "34 3 34 0 3",
	} {
		counts(t, byFast, m, nil, begun(m), fuel, want)
	}
}

// counting goes round for ever, five steps each time, and counts the rounds.
func counting() (api.Module, api.State) {
	m := of("l>", "", "loop:> get:0 l.const:1 l.add set:0 br:0 end end") // [loop] [get l.const l.add set br] [end] [end]
	return m, begun(m, 0)
}

// counted: what is counted of so many steps of counting, by the engine that pays for whole segments.
func counted(steps int64) string {
	if steps == 0 {
		return "0 2 0 0 1"
	}
	rounds, more := (steps-1)/5, (steps-1)%5
	return fmt.Sprint(steps, " ", rounds+2+more+1, " ", steps, " 0 ", rounds+2)
}

// TestEndless: a loop whose segment is entered again and again, until the fuel is used up, however much that is.
func TestEndless(t *testing.T) {
	m, s := counting()
	for _, fuel := range []int64{0, 1, 2, 3, 4, 5, 6, 7, 10, 11, 12, 1000, 1001, 1 << 20, 4194303, 4194304, 4194305, 10000000} {
		counts(t, byFast, m, nil, s, fuel, counted(fuel))
		counts(t, bySlow, m, nil, s, fuel, slowly(fuel, true))
	}
	round := of(">", "", "loop:> br:0 end end") // [loop] [br] [end] [end]
	for _, fuel := range []int64{0, 1, 2, 3, 40, 1000, 3000000} {
		counts(t, byFast, round, nil, begun(round), fuel, fmt.Sprint(fuel, " ", fuel+2, " ", fuel, " 0 ", fuel+1))
		counts(t, bySlow, round, nil, begun(round), fuel, slowly(fuel, true))
	}
}

// TestRounds: loops of each length up to some segments, with so many rounds, to their ends.
func TestRounds(t *testing.T) {
	for count := range int64(40) {
		m := of("w>w", "", fmt.Sprint("loop:> nop*", count, " get:0 w.const:1 w.sub tee:0 brif:0 end w.const:7 end"))
		for rounds := int64(1); rounds <= 5; rounds++ {
			s := begun(m, uint64(rounds))
			steps := rounds*(count+5) + 4
			entered := 1 + rounds*((count+5+block-1)/block) + 2
			counts(t, byFast, m, nil, s, steps, fmt.Sprint(steps, " ", entered, " ", steps, " 0 ", entered))
			counts(t, byFast, m, nil, s, steps+100, fmt.Sprint(steps, " ", entered, " ", steps, " 0 ", entered))
			counts(t, byFast, m, nil, s, steps-1, fmt.Sprint(steps-1, " ", entered+2, " ", steps-1, " 0 ", entered))
			counts(t, byFast, m, nil, s, steps-2, fmt.Sprint(steps-2, " ", entered+1, " ", steps-2, " 0 ", entered))
			counts(t, byFast, m, nil, s, steps-3, fmt.Sprint(steps-3, " ", entered, " ", steps-3, " 0 ", entered-1))
			counts(t, bySlow, m, nil, s, steps, slowly(steps, false))
			counts(t, bySlow, m, nil, s, steps-1, slowly(steps-1, true))
		}
	}
}

// TestTraps: a trap at each place of a segment: what was paid for those behind it is given back; with fuel that is enough for the trap, but not for the segment, nothing is.
func TestTraps(t *testing.T) {
	for _, x := range []struct {
		ahead, word string
		trap        int64
		closes      bool // it is its segment's last one
	}{
		{"w.const:4096", "w.load8u drop", trapMemory, false},
		{"w.const:4089 l.const:-1", "l.store", trapMemory, false},
		{"w.const:1 w.const:0", "w.divu drop", trapZero, false},
		{"l.const:-9223372036854775808 l.const:-1", "l.divs drop", trapRange, false},
		{"w.const:3 w.const:4", "host:0 drop", trapHost, true},
	} {
		ahead := int64(len(written(&api.Module{}, x.ahead)))
		for count := range int64(36) {
			m := paged(1, 1, ">", "", "end")
			m.Hosts = []int{kind(&m, "ww>w")}
			m.Functions[0].Code = written(&m, fmt.Sprint("nop*", count, " ", x.ahead, " ", x.word, " nop*20 end"))
			steps := count + ahead + 1
			start := (steps - 1) / block * block
			paid := start + block
			if x.closes {
				paid = steps
			}
			entered := start/block + 1
			for fuel := steps; fuel < paid; fuel++ {
				counts(t, byFast, m, nil, begun(m), fuel, fmt.Sprint(steps, " ", entered+steps-start, " ", steps, " 0 ", entered))
			}
			for _, fuel := range []int64{paid, paid + 1, 1000, math.MaxInt64} {
				counts(t, byFast, m, nil, begun(m), fuel, fmt.Sprint(steps, " ", entered, " ", paid, " ", paid-steps, " ", entered))
				counts(t, bySlow, m, nil, begun(m), fuel, slowly(steps, false))
				comes(t, m, nil, begun(m), fuel, fmt.Sprint("trapped used ", steps, " trap ", x.trap, " pages 1 0"))
			}
			counts(t, byFast, m, nil, begun(m), steps-1, straight(paid, 0, steps-1))
			counts(t, bySlow, m, nil, begun(m), steps-1, slowly(steps-1, true))
		}
	}
}

// TestMostBack: as much given back as can be: all of a segment of sixteen but its first instruction.
func TestMostBack(t *testing.T) {
	m := of(">", "", "w.const:1 w.const:0 loop:ww> w.divu nop*14 drop end end")
	quickly(t, m, nil, begun(m), 4, "0 2 0 0 1; 1 3 1 0 1; 2 4 2 0 1; 3 3 3 0 2"+strings.Repeat("; 4 3 4 0 2", 15)+"; 4 2 19 15 2")
}

// TestHosts: a host ends its segment, and what goes on behind it is another one.
func TestHosts(t *testing.T) {
	m := of("w>w", "", "get:0 host:0 nop host:0 end") // [get host] [nop host] [end]
	m.Hosts = []int{kind(&m, "w>w")}
	script := []api.Reply{{Results: numbers("5")}, {Results: numbers("6")}}
	quickly(t, m, script, begun(m, 1), 5, "0 2 0 0 1; 1 3 1 0 1; 2 3 2 0 2; 3 4 3 0 2; 4 4 4 0 3; 5 3 5 0 3")
	quickly(t, m, script[:1], begun(m, 1), 4, "0 2 0 0 1; 1 3 1 0 1; 2 3 2 0 2; 3 4 3 0 2; 4 2 4 0 2")
	comes(t, m, script, begun(m, 1), 9, "halted used 5 results 6 replies 2")
	s := begun(m, 1)
	s.Replies = 1
	comes(t, m, script, s, 9, "trapped used 4 trap 6 replies 2")
	counts(t, byFast, m, script, s, 9, "4 2 4 0 2")
}

// parsed is the module of a text of chapter 6.
func parsed(t *testing.T, source string) api.Module {
	t.Helper()
	m, e, line := text.Parse(source)
	if e != api.OK {
		t.Fatalf("%d at %d", e, line)
	}
	return m
}

// TestWhole: the document's examples of the whole, as far as they are runs, with their counts.
func TestWhole(t *testing.T) {
	down := parsed(t, "flagon\ntype - -> -\ntype w -> w\nmemory 0 0\nfunc 1 -\n  loop 0\n    get 0\n    w.const 1\n    w.sub\n    tee 0\n    brif 0\n  end\n  w.const 7\n  end\nexport down 0\n")
	comes(t, down, nil, begun(down, 3), 8, "suspended used 8 frame 0 at 3 locals 2 stack 2 1")
	counts(t, byFast, down, nil, begun(down, 3), 8, "8 6 8 0 3") // [loop] and the body once; two of the body, and the third is asked
	counts(t, byFast, down, nil, begun(down, 3), 100, "19 6 19 0 6")
	fact := parsed(t, "flagon\ntype l -> l\ntype - -> l\nmemory 0 0\nfunc 0 -\n  get 0\n  l.eqz\n  if 1\n    l.const 1\n  else\n    get 0\n    get 0\n    l.const 1\n    l.sub\n    call 0\n    l.mul\n  end\n  end\nexport fact 0\n")
	comes(t, fact, nil, begun(fact, 5), 1000, "halted used 62 results 120")
	counts(t, byFast, fact, nil, begun(fact, 5), 1000, "62 29 62 0 29") // of 5 to 1: [get l.eqz if] [get get l.const l.sub call] [l.mul] [end] [end]; of 0: [get l.eqz if] [l.const else] [end] [end]
	counts(t, bySlow, fact, nil, begun(fact, 5), 1000, "62 62 62 0 0")
	counts(t, bySlow, fact, nil, begun(fact, 5), 20, "20 21 20 0 0")
}

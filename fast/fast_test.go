package fast_test

import (
	"fmt"
	"math"
	"testing"

	"flagon/api"
	"flagon/fast"
	"flagon/text"
)

// TestExamples: the chapter's.
func TestExamples(t *testing.T) {
	five := of(">w", "", "w.const:5 end")
	comes(t, five, nil, begun(five), 0, "suspended used 0 frame 0 at 0 locals stack")
	comes(t, five, nil, begun(five), 1, "suspended used 1 frame 0 at 1 locals stack 5")
	comes(t, five, nil, begun(five), 2, "halted used 2 results 5")
	comes(t, five, nil, begun(five), 100, "halted used 2 results 5")
	if s, e := fast.Run(five, nil, begun(five), -1); e != 40 || !identical(s, api.State{}) {
		t.Errorf("P19.1: fuel -1: %d, %s", e, show(s))
	}
	over := ran(t, five, nil, begun(five), 2)
	if s, e := fast.Run(five, nil, over, 1); e != 47 || !identical(s, api.State{}) {
		t.Errorf("P19.1: of what has halted: %d, %s", e, show(s))
	}
}

// TestSteps: the examples of chapter 16.
func TestSteps(t *testing.T) {
	for _, x := range []struct {
		sig, code string
		steps     int64
		want      string
	}{
		{">w", "w.const:5 end", 2, "halted used 2 results 5"},
		{">", "trap end", 1, "trapped used 1 trap 1"},
		{">", "w.const:0 if:> nop end end", 4, "halted used 4 results"},
		{">", "w.const:1 if:> nop end end", 5, "halted used 5 results"},
		{">w", "w.const:1 w.const:0 w.divs end", 3, "trapped used 3 trap 3"},
	} {
		m := of(x.sig, "", x.code)
		ends(t, m, nil, begun(m), x.steps, x.want)
	}
	round := of(">", "", "loop:> br:0 end end")
	for _, fuel := range []int64{1, 2, 3, 40, 1000, 3000000} {
		comes(t, round, nil, begun(round), fuel, fmt.Sprint("suspended used ", fuel, " frame 0 at 1 locals stack"))
	}
}

// parsed is the module of a text of chapter 6.
func parsed(t *testing.T, source string) api.Module {
	t.Helper()
	m, e, line := text.Parse(source)
	if e != api.OK {
		t.Fatalf("%d at %d", e, line)
	}
	return m
}

// TestWhole: the document's examples of the whole, as far as they are runs.
func TestWhole(t *testing.T) {
	one := parsed(t, "flagon\ntype - -> w\nmemory 1 2\nfunc 0 -\n  w.const 5\n  end\nexport main 0\n")
	comes(t, one, nil, begun(one), 1, "suspended used 1 frame 0 at 1 locals stack 5 pages 1 0")
	comes(t, one, nil, ran(t, one, nil, begun(one), 1), 9, "halted used 2 results 5 pages 1 0")
	add := parsed(t, "flagon\ntype - -> w\nmemory 0 0\nfunc 0 -\n  w.const 5\n  w.const 6\n  w.add\n  end\nexport main 0\n")
	comes(t, add, nil, begun(add), 9, "halted used 4 results 11")
	comes(t, add, nil, ran(t, add, nil, begun(add), 2), 2, "halted used 4 results 11")
	down := parsed(t, "flagon\ntype - -> -\ntype w -> w\nmemory 0 0\nfunc 1 -\n  loop 0\n    get 0\n    w.const 1\n    w.sub\n    tee 0\n    brif 0\n  end\n  w.const 7\n  end\nexport down 0\n")
	comes(t, down, nil, begun(down, 3), 8, "suspended used 8 frame 0 at 3 locals 2 stack 2 1")
	comes(t, down, nil, ran(t, down, nil, begun(down, 3), 8), 100, "halted used 19 results 7")
	div := parsed(t, "flagon\ntype ww -> w\nmemory 0 0\nfunc 0 -\n  get 0\n  get 1\n  w.divs\n  end\nexport div 0\n")
	comes(t, div, nil, begun(div, 7, 4294967294), 9, "halted used 4 results 4294967293")
	comes(t, div, nil, begun(div, 7, 0), 9, "trapped used 3 trap 3")
	comes(t, div, nil, begun(div, 2147483648, 4294967295), 9, "trapped used 3 trap 4")
	fact := parsed(t, "flagon\ntype l -> l\ntype - -> l\nmemory 0 0\nfunc 0 -\n  get 0\n  l.eqz\n  if 1\n    l.const 1\n  else\n    get 0\n    get 0\n    l.const 1\n    l.sub\n    call 0\n    l.mul\n  end\n  end\nexport fact 0\n")
	comes(t, fact, nil, begun(fact, 5), 20, "suspended used 20 frame 0 at 9 locals 5 stack 5 frame 0 at 9 locals 4 stack 4 frame 0 at 6 locals 3 stack 3")
	comes(t, fact, nil, ran(t, fact, nil, begun(fact, 5), 20), 1000, "halted used 62 results 120")
	memory := parsed(t, "flagon\ntype - -> w\nmemory 1 2\nfunc 0 -\n  w.const 8\n  w.const -2\n  w.store 4\n  w.const 1\n  grow\n  end\nexport main 0\n")
	s := begun(memory)
	s.Pages[0][16], s.Pages[0][17] = 7, 255
	comes(t, memory, nil, s, 3, "suspended used 3 frame 0 at 3 locals stack pages 1 6")
	comes(t, memory, nil, ran(t, memory, nil, s, 3), 9, "halted used 6 results 1 pages 2 6")
	ask := parsed(t, "flagon\ntype w -> w\nextern 0\nmemory 0 0\nfunc 0 -\n  get 0\n  host 0\n  host 0\n  end\nexport ask 0\n")
	comes(t, ask, []api.Reply{{Results: numbers("5")}, {Trap: true}}, begun(ask, 1), 9, "trapped used 3 trap 6 replies 2")
	comes(t, ask, []api.Reply{{Results: numbers("5")}, {Results: numbers("6")}}, begun(ask, 1), 9, "halted used 4 results 6 replies 2")
}

// TestTraps: a run that each kind of trap ends; the trap's instruction is paid, too.
func TestTraps(t *testing.T) {
	ahead := "w.const:6 gset:0 w.const:1 grow drop w.const:4096 w.const:-1 w.store16 host:0 drop "
	for _, x := range []struct {
		code string
		trap int8
		used int64
	}{
		{"trap end", trapOp, 11},
		{"w.const:8192 w.const:7 w.store8 end", trapMemory, 13},
		{"w.const:-1 w.load8u drop end", trapMemory, 12},
		{"w.const:1 w.const:0 w.divu drop end", trapZero, 13},
		{"l.const:1 l.const:0 l.rems drop end", trapZero, 13},
		{"w.const:-2147483648 w.const:-1 w.divs gset:0 end", trapRange, 13},
		{"l.const:-9223372036854775808 l.const:-1 l.divs drop end", trapRange, 13},
		{"call:1 end", trapFrames, 74},
		{"w.const:5 host:1 end", trapHost, 12},
	} {
		var m api.Module
		m.Globals = []api.Global{{Letter: 'w', Mutable: true, Value: 5}, {Letter: 'l', Value: 3}}
		m.First, m.Most = 1, 2
		m.Hosts = []int{kind(&m, ">l"), kind(&m, "w>")}
		put(&m, ">", "", ahead+x.code)
		put(&m, ">", "", "call:1 end")
		replies := 1
		if x.trap == trapHost {
			replies = 2
		}
		script := []api.Reply{{Results: numbers("9")}, {Trap: true}, {}}
		ends(t, m, script, begun(m), x.used, fmt.Sprint("trapped used ", x.used, " trap ", x.trap, " globals 6 3 pages 2 2 replies ", replies))
	}
}

// TestCalls: a run that ends inside of calls, and behind them; 64 frames, and one more.
func TestCalls(t *testing.T) {
	m := of("w>w", "", "get:0 call:1 w.const:1 w.add end")
	put(&m, "w>w", "l", "get:0 get:0 w.mul call:2 end")
	put(&m, "w>w", "", "w.const:100 get:0 w.divu end")
	ends(t, m, nil, begun(m, 5), 14, "halted used 14 results 5")
	ends(t, m, nil, begun(m, 0), 9, "trapped used 9 trap 3")
	comes(t, m, nil, begun(m, 5), 7, "suspended used 7 frame 0 at 1 locals 5 stack frame 1 at 3 locals 5 0 stack frame 2 at 1 locals 25 stack 100")
}

// TestDeepest: 64 frames stand one in the other, and one more is a trap.
func TestDeepest(t *testing.T) {
	m := of("w>", "", "get:0 if:> get:0 w.const:1 w.sub call:0 end end")
	ends(t, m, nil, begun(m, 63), 63*8+4, "halted used 508 results")
	ends(t, m, nil, begun(m, 64), 64*6, "trapped used 384 trap 5")
	if s := ran(t, m, nil, begun(m, 64), 64*6-1); s.End != suspended || len(s.Frames) != most64 {
		t.Errorf("P19.1: %s", show(s))
	}
}

// TestHosts: hosts that answer, that trap, that answer with what does not fit, and that have no reply left.
func TestHosts(t *testing.T) {
	m := of("w>w", "", "get:0 host:0 call:1 host:1 drop host:0 end")
	m.Hosts = []int{kind(&m, "w>w"), kind(&m, ">w")}
	put(&m, "w>w", "", "get:0 host:0 host:1 w.add end")
	script := []api.Reply{{Results: numbers("10")}, {Results: numbers("20")}, {Results: numbers("30")}, {Results: numbers("40")}, {Results: numbers("50")}, {Results: numbers("60")}}
	ends(t, m, script, begun(m, 1), 12, "halted used 12 results 50 replies 5")
	ends(t, m, script[:5], begun(m, 1), 12, "halted used 12 results 50 replies 5")
	ends(t, m, script[:4], begun(m, 1), 11, "trapped used 11 trap 6 replies 4")
	ends(t, m, script[:2], begun(m, 1), 6, "trapped used 6 trap 6 replies 2")
	ends(t, m, nil, begun(m, 1), 2, "trapped used 2 trap 6")
	comes(t, m, script, begun(m, 1), 6, "suspended used 6 frame 0 at 2 locals 1 stack frame 1 at 3 locals 10 stack 20 30 replies 3")
	for _, reply := range []api.Reply{{Trap: true}, {Results: numbers("20"), Trap: true}, {}, {Results: numbers("20 20")}, {Results: numbers("4294967296")}} {
		ends(t, m, []api.Reply{script[0], reply, script[2]}, begun(m, 1), 5, "trapped used 5 trap 6 replies 2")
	}
	gone := begun(m, 1)
	gone.Replies = 9
	ends(t, m, script, gone, 2, "trapped used 2 trap 6 replies 9")
	second := begun(m, 1)
	second.Replies = 1
	ends(t, m, script, second, 12, "halted used 12 results 60 replies 6")
}

// counting goes round for ever, five steps each time, and counts the rounds.
func counting() (api.Module, api.State) {
	m := of("l>", "", "loop:> get:0 l.const:1 l.add set:0 br:0 end end")
	return m, begun(m, 0)
}

// round: where counting stands behind so many steps.
func round(steps int64) string {
	if steps == 0 {
		return "frame 0 at 0 locals 0 stack"
	}
	rounds, more := (steps-1)/5, (steps-1)%5
	stack := []string{"", fmt.Sprint(" ", rounds), fmt.Sprint(" ", rounds, " 1"), fmt.Sprint(" ", rounds+1), ""}[more]
	if more == 4 {
		rounds++
	}
	return fmt.Sprint("frame 0 at ", 1+more, " locals ", rounds, " stack", stack)
}

// long: fuels that are small, and such that are at each power of two up to a million, or beside it.
func long() []int64 {
	list := []int64{0, 1, 2, 3, 4, 5, 6, 7, 1000}
	for at := 4; at <= 20; at++ {
		list = append(list, 1<<at-1, 1<<at, 1<<at+1)
	}
	return append(list, 3000000, 10000000)
}

// TestEndless: a run that does not end is suspended where its fuel is used up, however much that is.
func TestEndless(t *testing.T) {
	m, s := counting()
	for _, fuel := range long() {
		comes(t, m, nil, s, fuel, fmt.Sprint("suspended used ", fuel, " ", round(fuel)))
	}
	comes(t, m, nil, ran(t, m, nil, s, 5000001), 9000003, fmt.Sprint("suspended used 14000004 ", round(14000004)))
}

// TestLong: a run that ends behind many steps, with just as much fuel, less, and more.
func TestLong(t *testing.T) {
	m := of("w>w", "", "loop:> get:0 w.const:1 w.sub tee:0 brif:0 end w.const:7 end")
	for _, rounds := range []int64{1, 2, 3, 1000, 1677721} {
		steps := 5*rounds + 4
		for _, fuel := range []int64{steps, steps + 1, steps + 16, math.MaxInt64} {
			comes(t, m, nil, begun(m, uint64(rounds)), fuel, fmt.Sprint("halted used ", steps, " results 7"))
		}
		comes(t, m, nil, begun(m, uint64(rounds)), steps-1, fmt.Sprint("suspended used ", steps-1, " frame 0 at 8 locals 0 stack 7"))
		comes(t, m, nil, begun(m, uint64(rounds)), steps-2, fmt.Sprint("suspended used ", steps-2, " frame 0 at 7 locals 0 stack"))
		comes(t, m, nil, begun(m, uint64(rounds)), steps-4, fmt.Sprint("suspended used ", steps-4, " frame 0 at 5 locals 0 stack 0"))
	}
}

// TestMostUsed: Used stops at 2^62, and the run goes on, as far as its fuel says.
func TestMostUsed(t *testing.T) {
	m, s := counting()
	for _, used := range []int64{1 << 61, mostUsed - 9, mostUsed - 2, mostUsed - 1, mostUsed} {
		s.Used = used
		for _, fuel := range append(long()[:20], 4194305) {
			comes(t, m, nil, s, fuel, fmt.Sprint("suspended used ", min(used+fuel, mostUsed), " ", round(fuel)))
		}
	}
}

// TestMostBack: near 2^62, too, what was paid for instructions that were not executed is no part of Used.
func TestMostBack(t *testing.T) {
	m := paged(1, 1, ">", "", "w.const:-1 w.load8u drop nop*9 end")
	for back := range int64(20) {
		s := begun(m)
		s.Used = mostUsed - back
		ends(t, m, nil, s, 2, fmt.Sprint("trapped used ", min(mostUsed, s.Used+2), " trap 2 pages 1 0"))
	}
}

// TestMostReplies: as many replies as can be told were taken, and the run goes on as if the script had ended.
func TestMostReplies(t *testing.T) {
	m := of(">w", "", "nop nop host:0 nop end")
	m.Hosts = []int{kind(&m, ">w")}
	script := []api.Reply{{Results: numbers("5")}, {Results: numbers("6")}}
	for _, taken := range []int{2, 3, math.MaxInt32, math.MaxInt - 1, math.MaxInt} {
		s := begun(m)
		s.Replies = taken
		ends(t, m, script, s, 3, fmt.Sprint("trapped used 3 trap 6 replies ", taken))
		comes(t, m, script, s, 2, fmt.Sprint("suspended used 2 frame 0 at 2 locals stack replies ", taken))
	}
}

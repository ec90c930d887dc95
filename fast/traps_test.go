package fast_test

import (
	"fmt"
	"testing"

	"flagon/api"
)

// changes are instructions that would be seen if they were executed: in a global, the memory, the pages.
const changes = "w.const:9 gset:0 w.const:0 w.const:9 w.store8 w.const:1 grow drop "

// trapping are instructions that trap, with what they take off put there by as many instructions ahead of them, and what brings the stack back to nothing behind them.
func trapping() []struct {
	ahead, word, behind string
	trap                int8
} {
	return []struct {
		ahead, word, behind string
		trap                int8
	}{
		{"w.const:4096", "w.load8u", "drop", trapMemory},
		{"w.const:4093", "w.load", "drop", trapMemory},
		{"w.const:-1", "l.load:4294967295", "drop", trapMemory},
		{"w.const:4089 l.const:-1", "l.store", "", trapMemory},
		{"w.const:4000 w.const:7", "w.store16:95", "", trapMemory},
		{"w.const:1 w.const:0", "w.divs", "drop", trapZero},
		{"l.const:1 l.const:0", "l.remu", "drop", trapZero},
		{"w.const:-2147483648 w.const:-1", "w.divs", "drop", trapRange},
		{"l.const:-9223372036854775808 l.const:-1", "l.divs", "drop", trapRange},
		{"w.const:3 w.const:4", "trap", "", trapOp},
		{"w.const:3 w.const:4", "host:0", "drop", trapHost},
		{"w.const:3 w.const:4", "call:1", "drop drop", trapFrames},
	}
}

// wide is a module whose function 0 has that code, with a mutable global, a memory of one page that may grow, a host, and a function that calls itself.
func wide(code string) api.Module {
	m := api.Module{First: 1, Most: 2, Globals: []api.Global{{Letter: 'w', Mutable: true, Value: 5}}}
	m.Hosts = []int{kind(&m, "ww>w")}
	put(&m, ">", "", code)
	put(&m, ">", "", "call:1 end")
	return m
}

// TestWithin: each trap at each place of a segment, its first and its last one too, with instructions of the segment behind it: what was paid for them is no part of Used, and nothing of what they do is done.
func TestWithin(t *testing.T) {
	t.Parallel()
	for _, x := range trapping() {
		ahead := len(written(&api.Module{}, x.ahead))
		for count := range 36 {
			rest := x.behind
			if x.trap == trapOp { // nothing but an end may stand behind it
				rest = ""
			} else {
				rest += " " + changes + " nop*20"
			}
			m := wide(fmt.Sprint("nop*", count, " ", x.ahead, " ", x.word, " ", rest, " end"))
			steps := int64(count + ahead + 1)
			if x.trap == trapFrames { // 62 more calls that are executed, and one that traps
				steps += 63
			}
			ends(t, m, nil, begun(m), steps, fmt.Sprint("trapped used ", steps, " trap ", x.trap, " globals 5 pages 1 0"))
			if count%5 == 0 {
				every(t, small{m, nil, begun(m), int(steps)})
			}
		}
	}
}

// TestKept: what was done ahead of a trap stays as the instruction left it: globals, pages, replies.
func TestKept(t *testing.T) {
	script := []api.Reply{{Results: numbers("1")}, {Results: numbers("1 2")}, {Results: numbers("3")}}
	for _, x := range trapping() {
		if x.trap == trapMemory { // the memory has grown here, so that they do not trap
			continue
		}
		for count := range 17 {
			m := wide(fmt.Sprint("w.const:1 w.const:2 host:0 drop ", changes, "nop*", count, " ", x.ahead, " ", x.word, " ", x.behind, " end"))
			if x.trap == trapOp {
				m = wide(fmt.Sprint("w.const:1 w.const:2 host:0 drop ", changes, "nop*", count, " trap end"))
			}
			s := begun(m)
			s.Pages[0][100] = 1
			end := single(t, m, script, s, 200)
			steps := len(end) - 1
			want := fmt.Sprint("trapped used ", steps, " trap ", x.trap, " globals 9 pages 2 2 replies 1")
			if x.trap == trapHost {
				want = fmt.Sprint("trapped used ", steps, " trap 6 globals 9 pages 2 2 replies 2")
			}
			ends(t, m, script, s, int64(steps), want)
		}
	}
}

// TestFirst: a trap at the first instruction of a segment that does not begin the code, and one at which a run begins, with much of the segment behind it.
func TestFirst(t *testing.T) {
	m := of(">w", "", "w.const:1 w.const:0 loop:ww>w w.divu nop*12 end end")
	ends(t, m, nil, begun(m), 4, "trapped used 4 trap 3")
	comes(t, m, nil, begun(m), 3, "suspended used 3 frame 0 at 3 locals stack 1 0")
	m = of(">w", "", "w.const:1 w.const:0 nop*5 w.divu nop*5 end")
	for pc := 2; pc <= 7; pc++ {
		s := begun(m)
		s.Frames[0].Pc, s.Frames[0].Stack, s.Used = pc, numbers("1 0"), 50
		ends(t, m, nil, s, int64(8-pc), fmt.Sprint("trapped used ", 58-pc, " trap 3"))
	}
}

// TestShort: fuel that ends ahead of a trap of its segment, at it, and behind it: the fuel is not enough for the segment, but for the trap.
func TestShort(t *testing.T) {
	m := of(">", "", "w.const:1 w.const:0 w.divu drop nop*11 end")
	comes(t, m, nil, begun(m), 1, "suspended used 1 frame 0 at 1 locals stack 1")
	comes(t, m, nil, begun(m), 2, "suspended used 2 frame 0 at 2 locals stack 1 0")
	for fuel := int64(3); fuel < 40; fuel++ {
		comes(t, m, nil, begun(m), fuel, "trapped used 3 trap 3")
	}
}

// TestInside: a trap in a frame that was called, with instructions behind it in its segment and in those of the frames that wait.
func TestInside(t *testing.T) {
	m := of("w>w", "", "get:0 call:1 nop*9 end")
	put(&m, "w>w", "", "nop get:0 call:2 nop*10 end")
	put(&m, "w>w", "", "nop*2 w.const:100 get:0 w.remu nop*11 end")
	ends(t, m, nil, begun(m, 0), 10, "trapped used 10 trap 3")
	ends(t, m, nil, begun(m, 7), 10+12+11+10, "halted used 43 results 2")
}

// TestGrown: a store that is out of bounds, and no more when the memory has grown; one that does not fit into the last page; a memory that cannot grow.
func TestGrown(t *testing.T) {
	m := paged(1, 3, "w>w", "", "get:0 grow drop w.const:8188 w.const:-1 w.store w.const:8188 w.load8s nop*5 end")
	ends(t, m, nil, begun(m, 0), 6, "trapped used 6 trap 2 pages 1 0")
	ends(t, m, nil, begun(m, 1), 14, "halted used 14 results 4294967295 pages 2 4")
	ends(t, m, nil, begun(m, 2), 14, "halted used 14 results 4294967295 pages 3 4")
	ends(t, m, nil, begun(m, 3), 6, "trapped used 6 trap 2 pages 1 0")
	ends(t, m, nil, begun(m, high-1), 6, "trapped used 6 trap 2 pages 1 0")
	m = paged(0, 2, ">w", "", "size w.const:1 grow w.add w.const:4095 w.const:258 w.store8 w.const:4095 w.const:7 w.store16 nop*3 end")
	ends(t, m, nil, begun(m), 10, "trapped used 10 trap 2 pages 1 1")
	m = paged(1, 64, ">w", "", "w.const:63 grow size w.mul w.const:1 grow w.add nop*9 end")
	ends(t, m, nil, begun(m), 17, "halted used 17 results 63 pages 64 0")
}

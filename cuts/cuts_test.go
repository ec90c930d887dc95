package cuts_test

import (
	"fmt"
	"math"
	"slices"
	"strings"
	"testing"

	"flagon/api"
	"flagon/cuts"
	"flagon/meter"
	"flagon/text"
)

// five is the chapter's example.
func five() api.Module {
	return of(">w", "", "w.const:5 end")
}

// TestExamples: the chapter's.
func TestExamples(t *testing.T) {
	m := five()
	comes(t, m, nil, begun(m), plan("1s! 1f"), "halted used 2 results 5", "1 1")
	comes(t, m, nil, begun(m), plan("0s 0s 9f 9s"), "halted used 2 results 5", "0 0 2")
	comes(t, m, nil, begun(m), nil, "suspended used 0 frame 0 at 0 locals stack", "")
	for _, along := range []string{"-1s", "-1f", "-1s!", "1s -1f", "9s -1s"} {
		nothing(t, m, nil, begun(m), plan(along), api.ErrFuel)
	}
}

// TestSlice: a slice has just its three fields, in that order, and the engines their numbers.
func TestSlice(t *testing.T) {
	if x := (cuts.Slice{7, 1, true}); x.Fuel != 7 || x.Engine != byFast || !x.Save {
		t.Errorf("P24.1: %v", x)
	}
	if meter.Slow != bySlow || meter.Fast != byFast {
		t.Errorf("P20.1: the engines are %d and %d", meter.Slow, meter.Fast)
	}
}

// TestFive: the chapter's module along plans of each kind, told by hand.
func TestFive(t *testing.T) {
	m := five()
	ahead, between, behind := "suspended used 0 frame 0 at 0 locals stack", "suspended used 1 frame 0 at 1 locals stack 5", "halted used 2 results 5"
	for _, x := range []struct {
		fuels string
		want  string
		steps string
	}{
		{"0", ahead, "0"},
		{"0 0 0", ahead, "0 0 0"},
		{"1", between, "1"},
		{"1 0", between, "1 0"},
		{"0 1", between, "0 1"},
		{"0 1 0 0", between, "0 1 0 0"},
		{"2", behind, "2"},
		{"3", behind, "2"},
		{"2 0", behind, "2"},
		{"2 9 9", behind, "2"},
		{"0 2 0", behind, "0 2"},
		{"1 1", behind, "1 1"},
		{"1 9", behind, "1 1"},
		{"1 0 1 1", behind, "1 0 1"},
		{"0 1 0 9", behind, "0 1 0 1"},
		{"9223372036854775807", behind, "2"},
		{"9223372036854775807 9223372036854775807", behind, "2"},
		{"1 9223372036854775807 1", behind, "1 1"},
	} {
		var fuels []int64
		for _, fuel := range numbers(x.fuels) {
			fuels = append(fuels, int64(fuel))
		}
		mixed(t, m, nil, begun(m), fuels, x.want, x.steps)
	}
}

// TestMostSlices: as many slices as there may be, and around that; what is beyond is refused.
func TestMostSlices(t *testing.T) {
	m, s := counting()
	for _, count := range []int{1, 2, 999, 1000} {
		for _, fuel := range []int64{0, 1, 7} {
			for _, along := range few(evenly(count, fuel)) {
				steps := int64(count) * fuel
				comes(t, m, nil, s, along, fmt.Sprint("suspended used ", steps, " ", round(steps)), told(evenly(count, fuel)))
			}
		}
	}
	for _, count := range []int{1001, 1002, 1024, 2000, 65536, 1 << 20} {
		nothing(t, m, nil, s, slices.Repeat([]cuts.Slice{{Fuel: 1}}, count), api.ErrArg)
		nothing(t, m, nil, s, make([]cuts.Slice, count), api.ErrArg)
	}
	if api.MaxSlices != mostSlices {
		t.Errorf("P24.1: at most %d slices", api.MaxSlices)
	}
	comes(t, m, nil, s, plan("0s*999 3f!"), "suspended used 3 "+round(3), strings.Repeat("0 ", 999)+"3")
	comes(t, five(), nil, begun(five()), plan("0s*499 0f!*500 9f"), "halted used 2 results 5", strings.Repeat("0 ", 999)+"2")
	comes(t, five(), nil, begun(five()), plan("9f!*1000"), "halted used 2 results 5", "2")
}

// TestNoSlices: the state as it was, whatever it is, in a list that is nil, or has no elements.
func TestNoSlices(t *testing.T) {
	for _, x := range append(smalls(), segmented()...) {
		for _, none := range [][]cuts.Slice{nil, {}, plan("9s")[:0]} {
			if got, made := ran(t, x.m, x.script, x.s, none); !identical(got, x.s) || len(made) != 0 {
				t.Errorf("P24.1: no slices: %s, %v, not %s", show(got), made, show(x.s))
			}
		}
	}
}

// TestNoughts: slices without fuel, at the beginning, between others, and at the end: they are run, and make no step.
func TestNoughts(t *testing.T) {
	m, s := counting()
	for _, x := range []struct {
		fuels []int64
		steps int64
	}{
		{[]int64{0, 0, 3, 4}, 7},
		{[]int64{3, 0, 0, 4}, 7},
		{[]int64{3, 4, 0, 0}, 7},
		{[]int64{0, 6, 0, 0, 11, 0, 1}, 18},
	} {
		mixed(t, m, nil, s, x.fuels, fmt.Sprint("suspended used ", x.steps, " ", round(x.steps)), told(x.fuels))
	}
}

// TestEnded: a run that ends in the midst of a plan, in the first slice, in one between, in the last one; by its end and by traps: no more slices are run.
func TestEnded(t *testing.T) {
	for _, x := range []struct {
		sig, code string
		steps     int64
		want      string
	}{
		{">w", "nop*7 w.const:5 end", 9, "halted used 9 results 5"},
		{">w", "nop*7 w.const:5 return end", 9, "halted used 9 results 5"},
		{">", "nop*8 br:0 end", 9, "halted used 9 results"},
		{">", "nop*8 trap end", 9, "trapped used 9 trap 1"},
		{">", "nop*7 w.const:1 w.load8u drop end", 9, "trapped used 9 trap 2"},
		{">", "nop*6 w.const:1 w.const:0 w.divu drop nop*20 end", 9, "trapped used 9 trap 3"},
		{">", "nop*6 l.const:-9223372036854775808 l.const:-1 l.divs drop end", 9, "trapped used 9 trap 4"},
		{">", "call:0 end", 64, "trapped used 64 trap 5"},
		{">", "nop*8 host:0 end", 9, "trapped used 9 trap 6"},
	} {
		var m api.Module
		m.Hosts = []int{kind(&m, ">")}
		put(&m, x.sig, "", x.code)
		n := x.steps
		for _, fuels := range [][]int64{{n}, {n + 1}, {n, 0}, {n, 1, 2}, {n + 30, 9}, {math.MaxInt64, math.MaxInt64}} {
			mixed(t, m, nil, begun(m), fuels, x.want, fmt.Sprint(n))
		}
		mixed(t, m, nil, begun(m), []int64{n - 1, 1, 1, 1}, x.want, fmt.Sprint(n-1, " ", 1))
		mixed(t, m, nil, begun(m), []int64{n - 1, 0, 7, 7}, x.want, fmt.Sprint(n-1, " ", 0, " ", 1))
		mixed(t, m, nil, begun(m), []int64{2, 3, math.MaxInt64, 1}, x.want, fmt.Sprint(2, " ", 3, " ", n-5))
		mixed(t, m, nil, begun(m), []int64{2, 3, n - 5, 0}, x.want, fmt.Sprint(2, " ", 3, " ", n-5))
		mixed(t, m, nil, begun(m), []int64{1, 1, 1, n - 3}, x.want, fmt.Sprint(1, " ", 1, " ", 1, " ", n-3))
		mixed(t, m, nil, begun(m), []int64{1, 1, 1, n}, x.want, fmt.Sprint(1, " ", 1, " ", 1, " ", n-3))
		mixed(t, m, nil, begun(m), evenly(1000, 1), x.want, told(evenly(int(n), 1)))
	}
}

// TestSaves: Save in slices behind which the run is suspended, halted and trapped; with frames, globals, pages and replies to be written.
func TestSaves(t *testing.T) {
	m := rich()
	script := []api.Reply{{}, {Results: numbers("5")}}
	s := begun(m, 7)
	halts, traps := "halted used 22 results 8 5 globals 7 18446744073709551615 9 pages 2 8 replies 2", "trapped used 16 trap 6 globals 7 18446744073709551615 9 pages 2 8 replies 2"
	for _, along := range []string{"22s!", "22f!", "9s! 9f! 9s!", "9f! 9s! 4f! 4s!", "1s!*22", "1f!*23", "21s 1f!", "21f! 1s", "9s! 99f! 99s!"} {
		got, made := ran(t, m, script, s, plan(along))
		if sum := total(made); show(got) != halts || sum != 22 {
			t.Errorf("P24.1: plan %s: %s, %s", along, show(got), told(made))
		}
		got, made = ran(t, m, []api.Reply{{}, {Trap: true}}, s, plan(along))
		if sum := total(made); show(got) != traps || sum != 16 {
			t.Errorf("P24.1: plan %s: %s, %s", along, show(got), told(made))
		}
	}
	stands := "suspended used 9 frame 0 at 1 locals 7 0 stack frame 1 at 7 locals 7 stack globals 7 18446744073709551615 9 pages 1 8"
	mixed(t, m, script, s, []int64{9}, stands, "9")
	mixed(t, m, script, s, []int64{4, 5, 0}, stands, "4 5 0")
}

// total: these numbers together.
func total(list []int64) int64 {
	sum := int64(0)
	for _, v := range list {
		sum += v
	}
	return sum
}

// TestHosts: host calls go on with the script where the slice ahead left off.
func TestHosts(t *testing.T) {
	m := of("w>w", "", "get:0 host:0 call:1 host:1 drop host:0 end")
	m.Hosts = []int{kind(&m, "w>w"), kind(&m, ">w")}
	put(&m, "w>w", "", "get:0 host:0 host:1 w.add end")
	script := []api.Reply{{Results: numbers("10")}, {Results: numbers("20")}, {Results: numbers("30")}, {Results: numbers("40")}, {Results: numbers("50")}, {Results: numbers("60")}}
	mixed(t, m, script, begun(m, 1), []int64{2, 3, 1, 6}, "halted used 12 results 50 replies 5", "2 3 1 6")
	mixed(t, m, script, begun(m, 1), evenly(20, 1), "halted used 12 results 50 replies 5", told(evenly(12, 1)))
	mixed(t, m, script, begun(m, 1), []int64{2, 3, 1}, "suspended used 6 frame 0 at 2 locals 1 stack frame 1 at 3 locals 10 stack 20 30 replies 3", "2 3 1")
	mixed(t, m, script[:4], begun(m, 1), []int64{2, 3, 1, 6}, "trapped used 11 trap 6 replies 4", "2 3 1 5")
	mixed(t, m, script[:2], begun(m, 1), []int64{2, 3, 1, 6}, "trapped used 6 trap 6 replies 2", "2 3 1")
	mixed(t, m, nil, begun(m, 1), []int64{1, 0, 5, 6}, "trapped used 2 trap 6", "1 0 1")
	second := begun(m, 1)
	second.Replies = 1
	mixed(t, m, script, second, []int64{5, 5, 5}, "halted used 12 results 60 replies 6", "5 5 2")
	for _, gone := range []int{6, 7, math.MaxInt64} {
		second.Replies = gone
		mixed(t, m, script, second, []int64{1, 1, 1}, fmt.Sprint("trapped used 2 trap 6 replies ", gone), "1 1")
	}
}

// parsed is the module of a text of chapter 6.
func parsed(t *testing.T, source string) api.Module {
	t.Helper()
	m, e, line := text.Parse(source)
	if e != api.OK {
		t.Fatalf("%d at %d", e, line)
	}
	return m
}

// TestWhole: the document's examples of the whole, as far as they are runs in parts.
func TestWhole(t *testing.T) {
	one := parsed(t, "flagon\ntype - -> w\nmemory 1 2\nfunc 0 -\n  w.const 5\n  end\nexport main 0\n")
	comes(t, one, nil, begun(one), plan("1s 9f"), "halted used 2 results 5 pages 1 0", "1 1")
	add := parsed(t, "flagon\ntype - -> w\nmemory 0 0\nfunc 0 -\n  w.const 5\n  w.const 6\n  w.add\n  end\nexport main 0\n")
	comes(t, add, nil, begun(add), plan("2f 2f"), "halted used 4 results 11", "2 2")
	down := parsed(t, "flagon\ntype - -> -\ntype w -> w\nmemory 0 0\nfunc 1 -\n  loop 0\n    get 0\n    w.const 1\n    w.sub\n    tee 0\n    brif 0\n  end\n  w.const 7\n  end\nexport down 0\n")
	comes(t, down, nil, begun(down, 3), plan("8f"), "suspended used 8 frame 0 at 3 locals 2 stack 2 1", "8")
	comes(t, down, nil, begun(down, 3), plan("8f 100s"), "halted used 19 results 7", "8 11")
	fact := parsed(t, "flagon\ntype l -> l\ntype - -> l\nmemory 0 0\nfunc 0 -\n  get 0\n  l.eqz\n  if 1\n    l.const 1\n  else\n    get 0\n    get 0\n    l.const 1\n    l.sub\n    call 0\n    l.mul\n  end\n  end\nexport fact 0\n")
	comes(t, fact, nil, begun(fact, 5), plan("20f 1000f"), "halted used 62 results 120", "20 42")
	memory := parsed(t, "flagon\ntype - -> w\nmemory 1 2\nfunc 0 -\n  w.const 8\n  w.const -2\n  w.store 4\n  w.const 1\n  grow\n  end\nexport main 0\n")
	s := begun(memory)
	s.Pages[0][16], s.Pages[0][17] = 7, 255
	mixed(t, memory, nil, s, []int64{3, 9}, "halted used 6 results 1 pages 2 6", "3 3")
	ask := parsed(t, "flagon\ntype w -> w\nextern 0\nmemory 0 0\nfunc 0 -\n  get 0\n  host 0\n  host 0\n  end\nexport ask 0\n")
	mixed(t, ask, []api.Reply{{Results: numbers("5")}, {Trap: true}}, begun(ask, 1), []int64{2, 9}, "trapped used 3 trap 6 replies 2", "2 1")
	mixed(t, ask, []api.Reply{{Results: numbers("5")}, {Results: numbers("6")}}, begun(ask, 1), []int64{2, 9}, "halted used 4 results 6 replies 2", "2 2")
}

// counting goes round for ever, five steps each time, and counts the rounds.
func counting() (api.Module, api.State) {
	m := of("l>", "", "loop:> get:0 l.const:1 l.add set:0 br:0 end end")
	return m, begun(m, 0)
}

// round: where counting stands behind so many steps.
func round(steps int64) string {
	if steps == 0 {
		return "frame 0 at 0 locals 0 stack"
	}
	rounds, more := (steps-1)/5, (steps-1)%5
	stack := []string{"", fmt.Sprint(" ", rounds), fmt.Sprint(" ", rounds, " 1"), fmt.Sprint(" ", rounds+1), ""}[more]
	if more == 4 {
		rounds++
	}
	return fmt.Sprint("frame 0 at ", 1+more, " locals ", rounds, " stack", stack)
}

// TestLong: millions of steps, cut at any places; with just as much fuel as the run needs, one less, and more.
func TestLong(t *testing.T) {
	m, s := counting()
	for _, fuels := range [][]int64{{3000000}, {1, 2999999}, {1 << 20, 1<<21 - 1, 777}, {5, 0, 999999, 1000003}} {
		steps := total(fuels)
		for _, along := range few(fuels) {
			comes(t, m, nil, s, along, fmt.Sprint("suspended used ", steps, " ", round(steps)), told(fuels))
		}
	}
	comes(t, m, nil, s, plan("3000s*500 3000f!*500"), "suspended used 3000000 "+round(3000000), told(evenly(1000, 3000)))
	down := of("w>w", "", "loop:> get:0 w.const:1 w.sub tee:0 brif:0 end w.const:7 end")
	for _, rounds := range []int64{1, 2, 100000} {
		steps := 5*rounds + 4
		mixed(t, down, nil, begun(down, uint64(rounds)), []int64{3, steps - 3, 9}, fmt.Sprint("halted used ", steps, " results 7"), fmt.Sprint("3 ", steps-3))
		mixed(t, down, nil, begun(down, uint64(rounds)), []int64{3, math.MaxInt64, 9}, fmt.Sprint("halted used ", steps, " results 7"), fmt.Sprint("3 ", steps-3))
		mixed(t, down, nil, begun(down, uint64(rounds)), []int64{3, steps - 4}, fmt.Sprint("suspended used ", steps-1, " frame 0 at 8 locals 0 stack 7"), fmt.Sprint("3 ", steps-4))
	}
}

// TestMostUsed: Used stops at 2^62, and the run goes on; how many steps a slice made is told all the same.
func TestMostUsed(t *testing.T) {
	m, s := counting()
	fuels := []int64{3, 0, 9, 2}
	for _, used := range []int64{1, 1 << 61, mostUsed - 1000, mostUsed - 14, mostUsed - 13, mostUsed - 12, mostUsed - 3, mostUsed - 1, mostUsed} {
		s.Used = used
		mixed(t, m, nil, s, fuels, fmt.Sprint("suspended used ", min(used+14, mostUsed), " ", round(14)), told(fuels))
	}
	for _, x := range []struct{ code, want string }{{"nop*19 end", " results"}, {"nop*19 trap end", " trap 1"}} {
		m := of(">", "", x.code)
		for back := range int64(25) {
			s := begun(m)
			s.Used = mostUsed - back
			word := map[string]string{" results": "halted", " trap 1": "trapped"}[x.want]
			mixed(t, m, nil, s, []int64{7, 0, 100, 1}, fmt.Sprint(word, " used ", min(mostUsed, s.Used+20), x.want), "7 0 13")
			mixed(t, m, nil, s, []int64{100}, fmt.Sprint(word, " used ", min(mostUsed, s.Used+20), x.want), "20")
		}
	}
}

package blocks_test

import (
	"math/rand"
	"slices"
	"strconv"
	"strings"
	"testing"

	"flagon/api"
	"flagon/blocks"
	"flagon/control"
	"flagon/ops"
)

// says: those leaders, and those lists.
func says(t *testing.T, text string, leaders, start, left []int) {
	t.Helper()
	code := written(text)
	list := blocks.Leaders(code)
	if len(list) != len(code) || !slices.Equal(places(list), leaders) {
		t.Errorf("P12.1: Leaders of %s: %v, not %v", text, list, leaders)
	}
	ends, elses, _, _, _ := control.Map(code)
	if b := blocks.Of(code, api.Table{Ends: ends, Elses: elses}); !same(b, api.Blocks{Start: start, Left: left}) {
		t.Errorf("P12.2: Of %s: %v, not %v; %v", text, b, start, left)
	}
	hold(t, code)
}

func TestExamples(t *testing.T) {
	says(t, "nop nop end", []int{0}, []int{0, 0, 0}, []int{3, 2, 1})
	says(t, "block nop end nop end", []int{0, 3}, []int{0, 0, 0, 3, 3}, []int{3, 2, 1, 2, 1})
	says(t, "loop nop end end", []int{0, 1, 3}, []int{0, 1, 1, 3}, []int{1, 2, 1, 1})
	says(t, "if nop else nop end end", []int{0, 1, 3, 4, 5}, []int{0, 1, 1, 3, 4, 5}, []int{1, 2, 1, 1, 1, 1})
	says(t, "call:0 nop end", []int{0, 1}, []int{0, 1, 1}, []int{1, 2, 1})
	says(t, "nop*20 end", []int{0}, append(make([]int, 16), 16, 16, 16, 16, 16), []int{16, 15, 14, 13, 12, 11, 10, 9, 8, 7, 6, 5, 4, 3, 2, 1, 5, 4, 3, 2, 1})
	refused(t, written("block end"))
}

// TestRefused: no code at all, and codes of each fault.
func TestRefused(t *testing.T) {
	faults := map[api.Errno]int{}
	for _, text := range []string{
		"", "nop", "block end", "if else end", "nop*40", "br:0 return trap", "loop",
		"end nop", "end end", "block end end ff", "end block end", "nop*16 end nop", "end*40",
		"else end", "block else end end", "loop else end end", "if else else end end", "if nop end else end", "if block else end end end",
		"block*33 nop end*34", "loop*33 end*34", "if*33 end*34", "nop block*33", "if*32 block end*34",
	} {
		code := written(text)
		refused(t, code)
		_, _, _, e, _ := control.Map(code)
		faults[e]++
	}
	for _, e := range []api.Errno{api.ErrCut, api.ErrRest, api.ErrElse, api.ErrDeep} {
		if faults[e] < 4 {
			t.Errorf("no more than %d codes are refused by %d", faults[e], e)
		}
	}
	if faults[api.OK] != 0 {
		t.Errorf("%d of the codes are taken", faults[api.OK])
	}
	hold(t, written("block*32 nop end*33"))
}

// TestEachKind: each opcode by itself, with nops around it; those that the document names begin a segment behind them, no other one does.
func TestEachKind(t *testing.T) {
	named := strings.Fields("loop if else end br brif brtable return trap call host")
	met := 0
	for op := range 256 {
		x := api.Ins{Op: byte(op)}
		text, at := "nop nop "+strconv.FormatInt(int64(op)+0x100, 16)[1:]+" nop nop ", 2
		switch name := word(x); name {
		case "block", "loop", "if":
			text = "nop nop " + name + " nop nop end end"
		case "else":
			text, at = "if nop else nop nop end end", 2
		case "end":
			text, at = "block nop end nop nop end", 2
		default:
			text += "end"
		}
		list := blocks.Leaders(written(text))
		want := slices.Contains(named, word(x))
		if want {
			met++
		}
		if len(list) == 0 || list[at] || list[at+1] != want || list[at+2] {
			t.Errorf("P12.1: Leaders of %s: %v", text, places(list))
		}
		hold(t, written(text))
	}
	if met != len(named) || len(ops.All()) != 90 {
		t.Errorf("%d of the named kinds", met)
	}
}

// TestNumbers: what an instruction has beside its opcode is not looked at.
func TestNumbers(t *testing.T) {
	for _, name := range []string{"br:0", "br:1", "br:99", "br:-1", "brif:0", "brif:7", "brtable", "brtable:0", "brtable:0,9,-1", "call:-5", "host:77", "return:3", "trap:1"} {
		says(t, "nop "+name+" nop end", []int{0, 2}, []int{0, 0, 2, 2}, []int{2, 1, 2, 1})
	}
	for _, name := range []string{"nop:9", "get:-1", "w.const:7", "fe:3"} {
		says(t, name+" nop end", []int{0}, []int{0, 0, 0}, []int{3, 2, 1})
	}
}

// TestEnds: just the end of an if is a leader by itself, with an else or without; what is behind an end is one, whatever it ends.
func TestEnds(t *testing.T) {
	says(t, "if nop end nop end", []int{0, 1, 2, 3}, []int{0, 1, 2, 3, 3}, []int{1, 1, 1, 2, 1})
	says(t, "if nop else nop end nop end", []int{0, 1, 3, 4, 5}, []int{0, 1, 1, 3, 4, 5, 5}, []int{1, 2, 1, 1, 1, 2, 1})
	says(t, "if nop nop else end end", []int{0, 1, 4, 5}, []int{0, 1, 1, 1, 4, 5}, []int{1, 3, 2, 1, 1, 1})
	says(t, "if end end", []int{0, 1, 2}, []int{0, 1, 2}, []int{1, 1, 1})
	says(t, "block nop nop end nop end", []int{0, 4}, []int{0, 0, 0, 0, 4, 4}, []int{4, 3, 2, 1, 2, 1})
	says(t, "loop nop nop end nop end", []int{0, 1, 4}, []int{0, 1, 1, 1, 4, 4}, []int{1, 3, 2, 1, 2, 1})
	says(t, "nop nop nop end", []int{0}, []int{0, 0, 0, 0}, []int{4, 3, 2, 1})
	says(t, "block if nop end nop end nop end", []int{0, 2, 3, 4, 6}, []int{0, 0, 2, 3, 4, 4, 6, 6}, []int{2, 1, 1, 1, 2, 1, 2, 1})
	says(t, "if block nop end nop end nop end", []int{0, 1, 4, 5, 6}, []int{0, 1, 1, 1, 4, 5, 6, 6}, []int{1, 3, 2, 1, 1, 1, 2, 1})
	says(t, "if nop else block nop end nop end nop end", []int{0, 1, 3, 6, 7, 8}, []int{0, 1, 1, 3, 3, 3, 6, 7, 8, 8}, []int{1, 2, 1, 3, 2, 1, 1, 1, 2, 1})
	says(t, "block block block nop end end end end", []int{0, 5, 6, 7}, []int{0, 0, 0, 0, 0, 5, 6, 7}, []int{5, 4, 3, 2, 1, 1, 1, 1})
}

// TestSideBySide: leaders one behind the other, and the last place of a code, which may be one.
func TestSideBySide(t *testing.T) {
	says(t, "end", []int{0}, []int{0}, []int{1})
	says(t, "nop end", []int{0}, []int{0, 0}, []int{2, 1})
	says(t, "return end", []int{0, 1}, []int{0, 1}, []int{1, 1})
	says(t, "trap br:0 brif:0 brtable:0 return call:0 host:0 end", []int{0, 1, 2, 3, 4, 5, 6, 7}, []int{0, 1, 2, 3, 4, 5, 6, 7}, []int{1, 1, 1, 1, 1, 1, 1, 1})
	says(t, "loop if else end end end", []int{0, 1, 2, 3, 4, 5}, []int{0, 1, 2, 3, 4, 5}, []int{1, 1, 1, 1, 1, 1})
	says(t, "block end end", []int{0, 2}, []int{0, 0, 2}, []int{2, 1, 1})
	says(t, "nop call:0 call:0 nop end", []int{0, 2, 3}, []int{0, 0, 2, 3, 3}, []int{2, 1, 1, 2, 1})
}

// sizes are those of the segments of a code, in their order.
func sizes(t *testing.T, code []api.Ins) []int {
	t.Helper()
	b := blocks.Of(code, wantTable(code))
	if len(b.Start) != len(code) || len(b.Left) != len(code) {
		t.Fatalf("P12.2: Of %s: %v", told(code), b)
	}
	var list []int
	for pc := 0; pc < len(code); pc += b.Left[pc] {
		if b.Left[pc] < 1 {
			t.Fatalf("W4: Of %s: %v", told(code), b)
		}
		list = append(list, b.Left[pc])
	}
	return list
}

// TestSizes: runs of so many instructions between two leaders, at the beginning, behind a leader and at the end of the code.
func TestSizes(t *testing.T) {
	for count, want := range map[int][]int{
		1: {1}, 2: {2}, 15: {15}, 16: {16}, 17: {16, 1}, 18: {16, 2}, 31: {16, 15}, 32: {16, 16}, 33: {16, 16, 1},
		2048: slices.Repeat([]int{16}, 128), 2047: append(slices.Repeat([]int{16}, 127), 15), 5000: append(slices.Repeat([]int{16}, 312), 8),
	} {
		code := slices.Concat(written("nop*"+strconv.Itoa(count-1)), written("end"))
		if got := sizes(t, code); !slices.Equal(got, want) {
			t.Errorf("P12.2: %d instructions: segments of %v", count, got)
		}
		if list := blocks.Leaders(code); len(list) != count || !slices.Equal(places(list), []int{0}) {
			t.Errorf("P12.1: %d instructions: leaders %v", count, places(list))
		}
		hold(t, code)
		between := slices.Concat(written("nop*3 call:0 nop*"+strconv.Itoa(count-1)), written("host:0 nop*16 end"))
		if got := sizes(t, between); !slices.Equal(got, slices.Concat([]int{4}, want, []int{16, 1})) {
			t.Errorf("P12.2: %d instructions between leaders: segments of %v", count, got)
		}
		hold(t, between)
	}
}

// TestLeaderAtSixteen: a leader at the seventeenth place of what would be a segment, one ahead of it and one behind it; it counts anew from there on.
func TestLeaderAtSixteen(t *testing.T) {
	for _, x := range []struct {
		ahead int // of a leader that ends with a brif
		want  []int
	}{
		{15, []int{15, 16, 4}}, {16, []int{16, 16, 4}}, {17, []int{16, 1, 16, 4}},
		{31, []int{16, 15, 16, 4}}, {32, []int{16, 16, 16, 4}}, {33, []int{16, 16, 1, 16, 4}},
	} {
		code := slices.Concat(written("nop*"+strconv.Itoa(x.ahead-1)), written("brif:0 nop*19 end"))
		if got := sizes(t, code); !slices.Equal(got, x.want) {
			t.Errorf("P12.2: a leader at %d: segments of %v, not %v", x.ahead, got, x.want)
		}
		hold(t, code)
		within := slices.Concat(written("if nop*"+strconv.Itoa(x.ahead)), written("end nop*19 end"))
		if got := sizes(t, within); !slices.Equal(got, slices.Concat([]int{1}, x.want[:len(x.want)-2], []int{1, 16, 4})) {
			t.Errorf("P12.2: an if's end %d behind it: segments of %v", x.ahead+1, got)
		}
		hold(t, within)
	}
	code := written("nop*20 end")
	if b := blocks.Of(code, wantTable(code)); b.Start[16] != 16 || blocks.Leaders(code)[16] {
		t.Errorf("P12.1: where a segment begins because the one ahead is full is no leader: %v", b)
	}
}

// TestSmall goes through all codes of up to five words; those that control.Map refuses have no answer.
func TestSmall(t *testing.T) {
	kinds := written("block loop if else end nop brif:0 trap")
	taken := 0
	var grow func(code []api.Ins, left int)
	grow = func(code []api.Ins, left int) {
		if _, _, _, e, _ := control.Map(code); e == api.OK {
			taken++
			hold(t, code)
		} else {
			refused(t, code)
		}
		if left == 0 || t.Failed() {
			return
		}
		for _, x := range kinds {
			grow(append(slices.Clone(code), x), left-1)
		}
	}
	grow(nil, 5)
	if taken < 200 {
		t.Errorf("no more than %d of the small codes are taken", taken)
	}
}

// TestDrawn holds both calls at drawn codes, and at such of which one instruction is another one.
func TestDrawn(t *testing.T) {
	r := rand.New(rand.NewSource(121))
	taken, refusals := 0, 0
	for range 3000 {
		code := drawn(r, 1+r.Intn(150), r.Intn(33))
		hold(t, code)
		code[r.Intn(len(code))] = written([]string{"nop", "end", "if", "else", "block", "loop", "trap"}[r.Intn(7)])[0]
		if _, _, _, e, _ := control.Map(code); e == api.OK {
			taken++
			hold(t, code)
		} else {
			refusals++
			refused(t, code)
		}
	}
	if taken < 300 || refusals < 300 {
		t.Errorf("%d taken, %d refused", taken, refusals)
	}
}

package judge_test

import (
	"slices"
	"strings"
	"testing"

	"flagon/api"
	"flagon/judge"
	"flagon/ops"
	"flagon/validate"
)

// TestExamples: chapter 10's examples: their tables' shapes, and no others; of those that are refused none at all.
func TestExamples(t *testing.T) {
	m := api.Module{Types: []api.Sig{{Results: "w"}, {Params: "w", Results: "w"}, {}}, Functions: []api.Function{{}}}
	for code, shapes := range map[string]string{
		"w.const:1 end":                                     ". w",
		"block:0 w.const:1 br:0 end end":                    ". . w w w",
		"w.const:1 loop:1 w.eqz end end":                    ". w w w w",
		"trap end":                                          ". w",
		"w.const:1 if:0 w.const:2 else w.const:3 end end":   ". w . w . w w",
		"w.const:1 w.const:1 w.const:0 select end":          ". w ww www w",
		"l.const:1 l.const:1 w.const:0 select l.eqz end":    ". l ll llw l w",
		"loop:2 w.const:1 brif:0 end w.const:1 end":         ". . w . . w",
		"w.const:1 w.const:0 if:1 w.eqz else w.clz end end": ". w ww w w w w w",
	} {
		m.Functions[0].Code = written(code)
		list := shapesOf(shapes)
		table, e, _ := validate.Function(m, 0)
		if e != api.OK || !slices.Equal(table.Shapes, list) || !judge.Holds(m, 0, list) {
			t.Errorf("P11.1: %s, of %q: false (%d, %q)", code, list, e, table.Shapes)
		}
		for _, other := range near(list) {
			if judge.Holds(m, 0, other) {
				t.Errorf("P11.1: %s, of %q: true", code, other)
			}
		}
	}
	for _, code := range []string{"end", "w.const:1 w.const:1 end", "w.const:1 block:2 drop end end", "trap nop end", "w.const:1 if:0 w.const:2 end end", "br:1 end", "call:9 end", "get:0 end", "gset:0 end", "l.const:1 w.const:1 w.const:0 select end"} {
		m.Functions[0].Code = written(code)
		low(len(m.Functions[0].Code), func(list []string) {
			if judge.Holds(m, 0, list) {
				t.Fatalf("P11.1: %s, of %q: true", code, list)
			}
		})
	}
}

// low says every list of so many shapes of at most two letters.
func low(count int, say func([]string)) {
	lowFrom(make([]string, count), 0, say)
}

// lowFrom says every such list that begins as this one does, up to that place.
func lowFrom(list []string, at int, say func([]string)) {
	if at == len(list) {
		say(list)
		return
	}
	for _, s := range []string{"", "w", "l", "ww", "wl", "lw", "ll"} {
		list[at] = s
		lowFrom(list, at+1, say)
	}
}

// TestRows: each row that is not plain, kept.
func TestRows(t *testing.T) {
	for _, x := range []struct {
		number       int
		code, shapes string
	}{
		{2, "end", "."},
		{0, "w.const end", ". w"},
		{2, "block:2 end end", ". . ."},
		{2, "w.const block:1 end drop end", ". w w w ."},
		{2, "w.const w.const l.const block:3 drop drop l.const w.const end drop drop drop end", ". w ww wwl wwl ww w wl wlw wlw wl w ."},
		{2, "loop:2 end end", ". . ."},
		{2, "l.const w.const l.const loop:3 drop drop l.const w.const end drop drop drop end", ". l lw lwl lwl lw l ll llw llw ll l ."},
		{2, "w.const if:2 end end", ". w . ."},
		{2, "l.const w.const w.const if:1 end drop drop end", ". l lw lww lw lw l ."},
		{2, "w.const if:2 else end end", ". w . . ."},
		{2, "w.const l.const w.const if:3 drop drop l.const w.const else trap end drop drop end", ". w wl wlw wl w . l lw wl lw lw l ."},
		{2, "l.const w.const l.const w.const if:3 trap else drop drop l.const w.const end drop drop drop end", ". l lw lwl lwlw lwl llw lwl lw l ll llw llw ll l ."},
		{4, "w.const l.const br:0 end", ". w wl wl"},
		{4, "l.const w.const l.const br:0 end", ". l lw lwl wl"},
		{4, "w.const l.const w.const brif:0 end", ". w wl wlw wl"},
		{2, "l.const w.const brif:0 drop end", ". l lw l ."},
		{4, "w.const l.const w.const brtable:0 end", ". w wl wlw wl"},
		{4, "l.const w.const l.const w.const brtable:0,0 end", ". l lw lwl lwlw wl"},
		{4, "w.const l.const return end", ". w wl wl"},
		{4, "l.const l.const w.const l.const return end", ". l ll llw llwl wl"},
		{4, "trap end", ". wl"},
		{4, "w.const trap end", ". w wl"},
		{2, "w.const l.const call:1 drop drop end", ". w wl lw l ."},
		{2, "l.const w.const l.const call:1 drop drop drop end", ". l lw lwl llw ll l ."},
		{2, "l.const call:2 end", ". l ."},
		{2, "call:0 end", ". ."},
		{2, "l.const w.const l.const host:0 drop drop drop end", ". l lw lwl llw ll l ."},
		{2, "host:1 end", ". ."},
		{2, "w.const drop l.const drop end", ". w . l ."},
		{2, "w.const w.const w.const select drop end", ". w ww www w ."},
		{2, "w.const l.const l.const w.const select drop drop end", ". w wl wll wllw wl w ."},
		{2, "get:0 get:1 set:1 tee:0 set:0 end", ". l lw l l ."},
		{3, "get:0 set:3 get:1 set:2 get:2 get:3 end", ". w . l . l lw"},
		{2, "gget:0 gget:1 gset:1 gset:2 gget:3 gset:1 end", ". w wl w . l ."},
		{1, "get:0 loop:1 w.const w.sub tee:0 get:0 brif:0 end end", ". w w ww w w ww w w"},
	} {
		kept(t, x.number, x.code, x.shapes)
	}
}

// TestPlain: each plain instruction, over nothing, over letters and in a block: kept; and each letter of what it takes another one, or below the floor.
func TestPlain(t *testing.T) {
	count := 0
	for _, op := range ops.All() {
		row, _ := ops.Of(op)
		if !row.Plain {
			continue
		}
		count++
		turned(t, row.Word, row.Pops, row.Pushes)
	}
	if count != 71 {
		t.Errorf("%d plain instructions", count)
	}
}

// TestTurned: the same of those that are not plain, and have letters that they take off and put on.
func TestTurned(t *testing.T) {
	for _, x := range [][3]string{
		{"drop", "w", ""}, {"drop", "l", ""}, {"select", "www", "w"}, {"select", "llw", "l"},
		{"get:0", "", "l"}, {"get:1", "", "w"}, {"set:0", "l", ""}, {"set:1", "w", ""}, {"tee:0", "l", "l"}, {"tee:1", "w", "w"},
		{"gget:0", "", "w"}, {"gget:1", "", "l"}, {"gset:1", "l", ""}, {"gset:2", "w", ""},
		{"call:0", "", ""}, {"call:1", "wl", "lw"}, {"call:2", "l", ""}, {"call:3", "", "wwwwwwww"},
		{"host:0", "wl", "lw"}, {"host:1", "", ""}, {"host:2", "", "wwwwwwww"},
		{"brif:0", "w", ""},
	} {
		turned(t, x[0], x[1], x[2])
	}
}

// turned: the instruction takes those letters off, and puts those on. Behind it stands a trap, which asks nothing of its shape: what is broken is broken by itself.
func turned(t *testing.T, word, pops, pushes string) {
	t.Helper()
	for _, below := range []string{"", "l", "w", "wl"} {
		kept(t, 2, consts(below+pops)+word+" trap end", rising("", below+pops)+"."+below+pushes+" .")
		at := len(below + pops)
		for _, behind := range []string{below, below + pops, below + pushes + "w", below + pushes + "l", "w" + below + pushes, "l" + below + pushes, pushes, pops, ""} {
			if behind != below+pushes {
				just(t, 2, consts(below+pops)+word+" trap end", rising("", below+pops)+"."+behind+" .", fault(at, "next"))
			}
		}
		if word == "drop" {
			continue
		}
		for i := range pops {
			wrong := below + pops[:i] + other(pops[i:i+1]) + pops[i+1:]
			just(t, 2, consts(wrong)+word+" trap end", rising("", wrong)+"."+below+pushes+" .", fault(at, "top"))
		}
	}
	for split := 1; split <= len(pops); split++ {
		low, high := pops[:split], pops[split:]
		if word == "brif:0" {
			break
		}
		just(t, 2, consts(low)+"block:2 "+consts(high)+word+" trap end trap end", rising("", low)+rising(low, high)+"."+pushes+" ."+low+" ."+low+" .", fault(len(pops)+1, "top"))
		just(t, 2, consts(low)+"loop:2 "+consts(high)+word+" trap end trap end", rising("", low)+rising(low, high)+"."+pushes+" ."+low+" ."+low+" .", fault(len(pops)+1, "top"))
		just(t, 2, consts(low)+"w.const if:2 "+consts(high)+word+" trap end trap end", rising("", low+"w")+rising(low, high)+"."+pushes+" ."+low+" ."+low+" .", fault(len(pops)+2, "top"))
		just(t, 2, consts(low)+"w.const if:2 trap else "+consts(high)+word+" trap end trap end", rising("", low+"w")+"."+low+" ."+low+" "+rising(low, high)+"."+pushes+" ."+low+" ."+low+" .", fault(len(pops)+4, "top"))
	}
	for split := range len(pops) {
		just(t, 2, consts(pops[split+1:])+word+" trap end", rising("", pops[split+1:])+"."+pushes+" .", fault(len(pops)-split-1, "top"))
	}
}

// other is the other letter.
func other(letter string) string {
	if letter == "w" {
		return "l"
	}
	return "w"
}

// TestFirstShape: the shape at pc 0 is empty, whatever would take what stands there.
func TestFirstShape(t *testing.T) {
	just(t, 2, "trap end", "w .", "0 first")
	just(t, 2, "drop end", "l .", "0 first")
	just(t, 0, "end", "w", "0 first")
	just(t, 0, "nop end", "w w", "0 first")
	just(t, 4, "br:0 end", "wl wl", "0 first")
	just(t, 0, "block:1 end end", "w w w", "0 first")
	just(t, 2, "if:2 end end", "w . .", "0 first")
}

// TestOpeners: what is asked of block, loop and if, each thing broken by itself.
func TestOpeners(t *testing.T) {
	for _, word := range []string{"block", "loop"} {
		just(t, 2, word+":2 trap end trap end", ". w . . .", "0 next")
		just(t, 2, word+":2 trap end trap end", ". l . . .", "0 next")
		just(t, 2, "w.const "+word+":1 trap end trap end", ". w . w w .", "1 next")
		just(t, 2, "w.const "+word+":1 trap end trap end", ". w l w w .", "1 next")
		just(t, 2, "w.const "+word+":1 trap end trap end", ". w ww w w .", "1 next")
		// What it takes lies below the floor around it, all or a part of it.
		just(t, 2, "w.const block:2 "+word+":1 trap end trap end trap end", ". w w w w w w w .", "2 top")
		just(t, 2, "w.const block:2 l.const "+word+":3 trap end trap end trap end", ". w w wl wl lw lw w w .", "3 top")
	}
	just(t, 2, "if:2 trap end trap end", ". . . . .", "0 top", "2 base")
	just(t, 2, "l.const if:2 trap end trap end", ". l . . . .", "1 top", "3 base")
	just(t, 2, "w.const if:2 trap end trap end", ". w w . . .", "1 next")
	just(t, 2, "w.const if:2 trap end trap end", ". w l . . .", "1 next")
	just(t, 2, "w.const w.const if:1 trap end trap end", ". w ww ww w w .", "2 next")
	just(t, 2, "w.const w.const if:1 trap end trap end", ". w ww . w w .", "2 next")
	just(t, 2, "w.const if:2 trap else trap end trap end", ". w w . . . . .", "1 next")
	just(t, 2, "w.const if:2 trap else trap end trap end", ". w . . w . . .", "1 else")
	just(t, 2, "w.const w.const if:6 trap else trap end trap end", ". w ww w l . l l .", "2 else")
	just(t, 2, "w.const w.const if:6 trap else trap end trap end", ". w ww w l l l l .", "2 else")
	just(t, 2, "w.const w.const if:6 trap else trap end trap end", ". w ww w l ww l l .", "2 else")
	// What an if takes, or chooses by, lies below the floor around it.
	just(t, 2, "w.const block:2 if:2 trap end trap end trap end", ". w w . . . w w .", "2 top")
	just(t, 2, "w.const block:2 w.const if:1 trap end trap end trap end", ". w w ww w w w w w .", "3 top")
}

// TestIfs: an if without an else may be passed by; with one it is not, whatever its type.
func TestIfs(t *testing.T) {
	kept(t, 2, "w.const if:2 trap end end", ". w . . .")
	kept(t, 2, "w.const w.const if:1 trap end drop end", ". w ww w w w .")
	kept(t, 2, "w.const w.const w.const if:8 end drop drop end", ". w ww www ww ww w .")
	kept(t, 2, "w.const if:2 else trap end end", ". w . . . .")
	kept(t, 2, "w.const w.const if:1 else trap end drop end", ". w ww w w w w .")
	kept(t, 0, "w.const if:0 trap else trap end end", ". w . w . w w")
	kept(t, 2, "w.const w.const if:9 drop else drop end end", ". w ww w . w . .")
	kept(t, 2, "w.const w.const if:6 trap else trap end drop end", ". w ww w l w l l .")
	just(t, 0, "w.const if:0 trap end end", ". w . w w", "1 same")
	just(t, 0, "w.const if:0 w.const end end", ". w . w w", "1 same")
	just(t, 2, "w.const w.const if:9 drop end end", ". w ww w . .", "2 same")
	just(t, 2, "w.const w.const if:6 drop l.const end drop end", ". w ww w . l l .", "2 same")
	just(t, 2, "w.const l.const w.const if:3 trap end trap end", ". w wl wlw wl lw lw .", "3 same")
	// A block and a loop are never passed by.
	kept(t, 0, "block:0 w.const end end", ". . w w")
	kept(t, 0, "loop:0 w.const end end", ". . w w")
	// The shape at its end is asked by the if and by the end.
	just(t, 2, "w.const if:2 trap end trap end", ". w . w . .", "1 end", "3 left")
}

// TestClosers: what is asked of an else, of an opener's end, and of the last one.
func TestClosers(t *testing.T) {
	for _, wrong := range []string{".", "l", "ww", "lw", "wl"} {
		just(t, 2, "w.const if:0 trap else trap end trap end", ". w . "+wrong+" . w w .", "3 left")
		just(t, 2, "w.const if:0 trap else trap end trap end", ". w . w . "+wrong+" w .", "3 end", "5 left")
		just(t, 2, "w.const if:0 trap else trap end trap end", ". w . w . w "+wrong+" .", "5 next")
		just(t, 2, "block:0 trap end trap end", ". . "+wrong+" w .", "2 left")
		just(t, 2, "block:0 trap end trap end", ". . w "+wrong+" .", "2 next")
		just(t, 2, "loop:0 trap end trap end", ". . "+wrong+" w .", "2 left")
		just(t, 2, "loop:0 trap end trap end", ". . w "+wrong+" .", "2 next")
		just(t, 0, "trap end", ". "+wrong, "1 left")
		just(t, 0, "w.const br:0 end", ". w "+wrong, "2 left")
	}
	just(t, 2, "nop end", ". w", "0 next", "1 left")
	just(t, 2, "w.const end", ". w", "1 left")
	just(t, 2, "block:2 w.const end trap end", ". . w . .", "2 left")
	just(t, 2, "w.const if:2 w.const else trap end trap end", ". w . w . . . .", "3 left")
}

// TestBases: what stands below an opener's base is the same at all that is asked in it; the body's base is empty.
func TestBases(t *testing.T) {
	just(t, 2, "l.const block:2 nop trap end trap end", ". l w w l l .", "1 next", "2 top")
	just(t, 2, "l.const loop:2 nop trap end trap end", ". l w w l l .", "1 next", "2 top")
	just(t, 2, "l.const w.const if:2 nop trap end trap end", ". l lw w w l l .", "2 next", "3 top")
	just(t, 2, "l.const w.const if:2 trap else nop trap end trap end", ". l lw l l w w l l .", "2 else", "5 top")
	just(t, 2, "l.const block:0 trap end trap end", ". l l w lw .", "3 left")
	just(t, 2, "l.const block:0 trap end trap end", ". l l ww lw .", "3 left")
	just(t, 2, "l.const block:0 trap end trap end", ". l l lw ww .", "3 next")
	just(t, 2, "l.const loop:0 trap end trap end", ". l l lw w .", "3 next")
	just(t, 2, "l.const w.const if:0 trap else trap end trap end", ". l lw l w l lw lw .", "4 left")
	just(t, 2, "l.const w.const if:0 trap else trap end trap end", ". l lw l lw w lw lw .", "2 else")
	just(t, 2, "l.const w.const if:0 trap else trap end trap end", ". l lw l lw l lw w .", "6 next")
	// The shapes at the openers have no base at all.
	just(t, 2, "block:1 trap end trap end", ". . w w .", "0 top", "2 base")
	just(t, 2, "loop:1 trap end trap end", ". . w w .", "0 top", "2 base")
	just(t, 2, "w.const if:1 trap end trap end", ". w . w w .", "1 top", "3 base")
	just(t, 2, "l.const block:1 nop trap end trap end", ". l l l w w .", "1 top", "2 base", "4 base")
	just(t, 2, "l.const loop:1 nop trap end trap end", ". l l l w w .", "1 top", "2 base", "4 base")
	just(t, 2, "w.const l.const if:1 nop trap end trap end", ". w wl w w w w .", "2 top", "3 base", "5 base")
	just(t, 0, "trap end", ". lw", "1 left")
	just(t, 0, "w.const end", "l lw", "0 first", "1 left")
	// Behind the end the base is again the one around it.
	kept(t, 2, "l.const block:2 w.const block:2 end drop end drop end", ". l l lw lw lw l l .")
	just(t, 2, "l.const block:2 w.const block:2 end drop drop trap end trap end", ". l l lw lw lw l . l l .", "6 top")
}

// ways are the ways' ends of a function of the type - -> -, and what stands ahead of them.
var ways = map[string]string{"trap": "", "br:0": "", "return": "", "brtable:0": "w", "brtable:0,0": "w"}

// TestBehind: an else and an end may stand behind a way's end, and nothing else, even where all shapes fit.
func TestBehind(t *testing.T) {
	for way, ahead := range ways {
		shapes := rising("", ahead)
		at := len(ahead)
		kept(t, 2, consts(ahead)+way+" end", shapes+".")
		kept(t, 2, "block:2 "+consts(ahead)+way+" end end", ". "+shapes+". .")
		kept(t, 2, "w.const if:2 "+consts(ahead)+way+" else "+consts(ahead)+way+" end end", ". w "+shapes+". "+shapes+". .")
		for _, op := range ops.All() {
			row, _ := ops.Of(op)
			pops, pushes := row.Pops, row.Pushes
			code := row.Word + " trap"
			switch row.Word {
			case "else", "end":
				continue
			case "block", "loop", "if":
				code, pops = row.Word+":2 trap end trap", strings.Repeat("w", strings.Count(row.Word, "if"))
				just(t, 2, consts(ahead)+way+" "+code+" end", shapes+"."+pops+" . . . .", fault(at, "behind"))
				continue
			case "trap", "br", "return", "brtable":
				code = strings.Replace(row.Word, "brtable", "brtable:0", 1)
				pops = strings.Repeat("w", strings.Count(row.Word, "table"))
				just(t, 2, consts(ahead)+way+" "+code+" end", shapes+"."+pops+" .", fault(at, "behind"))
				continue
			case "drop", "set", "tee":
				pops, pushes = "l", strings.Repeat("l", strings.Count(row.Word, "tee"))
			case "get":
				pushes = "l"
			case "brif":
				pops = "w"
			case "select":
				pops, pushes = "llw", "l"
			case "gget":
				pushes = "w"
			case "gset":
				code, pops = "gset:1 trap", "l"
			case "host":
				pops, pushes = "wl", "lw"
			}
			just(t, 2, consts(ahead)+way+" "+code+" end", shapes+"."+pops+" ."+pushes+" .", fault(at, "behind"))
		}
	}
}

package validate_test

import (
	"slices"
	"strconv"
	"strings"
	"testing"

	"flagon/api"
	"flagon/module"
	"flagon/validate"
)

// Types, hosts, globals, locals and functions by their numbers, for codes that are written as words.
func exampleTypes() []api.Sig {
	return []api.Sig{{Results: "w"}, {Params: "w", Results: "w"}, {}, {Params: "wl", Results: "lw"}, {Results: "wl"}, {Params: "l"}, {Params: "w", Results: "l"}, {Results: "wwwwwwww"}, {Params: "ww", Results: "ww"}}
}

// of is a module whose first function has that type and that code; its locals behind the parameters are l and w.
func of(number int, code string) api.Module {
	return api.Module{
		Types:   exampleTypes(),
		Hosts:   []int{3, 2, 7},
		Globals: []api.Global{{Letter: 'w'}, {Letter: 'l', Mutable: true}, {Letter: 'w', Mutable: true}, {Letter: 'l'}},
		Functions: []api.Function{
			{Type: number, Locals: "lw", Code: written(code)},
			{Type: 3, Code: written("get:1 get:0 end")},
			{Type: 5, Code: written("end")},
			{Type: 7, Code: written("trap end")},
		},
		First:   1,
		Most:    2,
		Data:    []api.Data{{At: 3, B: []byte{1, 2}}},
		Exports: []api.Export{{Name: "f"}, {Name: "g", Function: 3}},
	}
}

// one is such a module, of the type - -> w, as the document's examples are.
func one(code string) api.Module {
	return of(0, code)
}

func encoded(t *testing.T, m api.Module) []byte {
	t.Helper()
	b, e := module.Encode(m)
	if e != api.OK {
		t.Fatalf("module.Encode: %d", e)
	}
	return b
}

// shapesOf: texts with blanks between them, a dot for the empty one.
func shapesOf(text string) []string {
	list := strings.Fields(text)
	for i, s := range list {
		list[i] = strings.TrimPrefix(s, ".")
	}
	return list
}

// taken: the code, of a function of that type, has those shapes, in all three calls.
func taken(t *testing.T, number int, code, shapes string) api.Table {
	t.Helper()
	m := of(number, code)
	table, e, pc := validate.Function(m, 0)
	if e != api.OK || pc != 0 || !slices.Equal(table.Shapes, shapesOf(shapes)) {
		t.Errorf("P10.1: %s: %q, %d, %d, not %q", code, table.Shapes, e, pc, shapes)
		return table
	}
	tables, e, function, pc := validate.Module(m)
	if e != api.OK || function != 0 || pc != 0 || len(tables) != 4 || !sameTable(tables[0], table) {
		t.Errorf("P10.2: %s: %v, %d, %d, %d", code, tables, e, function, pc)
	}
	got, tables, e, function, pc := validate.Bytes(encoded(t, m))
	if e != api.OK || function != 0 || pc != 0 || len(tables) != 4 || !sameTable(tables[0], table) || !sameModule(got, m) {
		t.Errorf("P10.3: %s: %v, %d, %d, %d", code, tables, e, function, pc)
	}
	return table
}

// refused: the code, of a function of that type, has that fault, in all three calls.
func refused(t *testing.T, number int, code string, e api.Errno, pc int) {
	t.Helper()
	m := of(number, code)
	if table, gotE, gotPc := validate.Function(m, 0); gotE != e || gotPc != pc || !sameTable(table, api.Table{}) {
		t.Errorf("P10.1: %s: %v, %d, %d, not %d, %d", code, table, gotE, gotPc, e, pc)
	}
	if tables, gotE, function, gotPc := validate.Module(m); gotE != e || function != 0 || gotPc != pc || len(tables) != 0 {
		t.Errorf("P10.2: %s: %v, %d, %d, %d, not %d, 0, %d", code, tables, gotE, function, gotPc, e, pc)
	}
	if got, tables, gotE, function, gotPc := validate.Bytes(encoded(t, m)); gotE != e || function != 0 || gotPc != pc || len(tables) != 0 || !sameModule(got, api.Module{}) {
		t.Errorf("P10.3: %s: %v, %v, %d, %d, %d, not %d, 0, %d", code, got, tables, gotE, function, gotPc, e, pc)
	}
}

func sameModule(a, b api.Module) bool {
	code := func(x, y api.Ins) bool { return x.Op == y.Op && x.A == y.A && slices.Equal(x.L, y.L) }
	function := func(x, y api.Function) bool {
		return x.Type == y.Type && x.Locals == y.Locals && slices.EqualFunc(x.Code, y.Code, code)
	}
	data := func(x, y api.Data) bool { return x.At == y.At && slices.Equal(x.B, y.B) }
	return slices.Equal(a.Types, b.Types) && slices.Equal(a.Hosts, b.Hosts) && slices.Equal(a.Globals, b.Globals) && a.First == b.First && a.Most == b.Most && slices.EqualFunc(a.Functions, b.Functions, function) && slices.EqualFunc(a.Data, b.Data, data) && slices.Equal(a.Exports, b.Exports)
}

func TestExamples(t *testing.T) {
	if x := taken(t, 0, "w.const:1 end", ". w"); x.Highest != 1 {
		t.Errorf("P10.1: Highest %d", x.Highest)
	}
	refused(t, 0, "end", api.ErrStack, 0)
	refused(t, 0, "w.const:1 w.const:1 end", api.ErrStack, 2)
	if x := taken(t, 0, "block:0 w.const:1 br:0 end end", ". . w w w"); !slices.Equal(x.Ends, []int{3, -1, -1, -1, -1}) {
		t.Errorf("P10.1: Ends %d", x.Ends)
	}
	if x := taken(t, 0, "w.const:1 loop:1 w.eqz end end", ". w w w w"); !slices.Equal(x.Floors, []int{-1, 0, -1, -1, -1}) {
		t.Errorf("P10.1: Floors %d", x.Floors)
	}
	refused(t, 0, "w.const:1 block:2 drop end end", api.ErrStack, 2)
	refused(t, 0, "trap nop end", api.ErrDead, 1)
	taken(t, 0, "trap end", ". w")
	refused(t, 0, "w.const:1 if:0 w.const:2 end end", api.ErrElse, 3)
	taken(t, 0, "w.const:1 if:0 w.const:2 else w.const:3 end end", ". w . w . w w")
	refused(t, 0, "br:1 end", api.ErrLabel, 0)
	refused(t, 0, "call:9 end", api.ErrIndex, 0)
	refused(t, 0, "get:2 end", api.ErrIndex, 0)
	refused(t, 0, "gset:4 end", api.ErrIndex, 0)
	refused(t, 0, "l.const:1 w.const:1 w.const:0 select end", api.ErrStack, 3)
	bare := api.Module{Types: exampleTypes(), Functions: []api.Function{{}}}
	for _, code := range []string{"get:0 end", "gset:0 end"} {
		bare.Functions[0].Code = written(code)
		if a := asked(bare, 0); a.e != api.ErrIndex || a.pc != 0 {
			t.Errorf("P10.1: %s without locals and globals: %v", code, a)
		}
	}
}

// consts is the code that puts those letters on the stack.
func consts(letters string) string {
	out := ""
	for _, letter := range letters {
		out += string(letter) + ".const "
	}
	return out
}

// drops is as many drops as there are letters.
func drops(letters string) string {
	return strings.Repeat("drop ", len(letters))
}

// rising is the shapes that consts makes on top of s, without s itself, each with a blank ahead.
func rising(s, letters string) string {
	out := ""
	for i := range letters {
		out += " " + s + letters[:i+1]
	}
	return out
}

// falling is the shapes that drops makes of s, down to the empty one.
func falling(s string) string {
	out := ""
	for i := len(s) - 1; i >= 0; i-- {
		out += " ." + s[:i]
	}
	return out
}

// TestPlain: each plain instruction, over nothing and over letters; and without one letter of what it takes, or with another one.
func TestPlain(t *testing.T) {
	for word, x := range plain {
		for _, below := range []string{"", "l", "w", "wl"} {
			code := consts(below+x.pops) + word + " " + drops(below+x.pushes) + "end"
			taken(t, 2, code, "."+rising("", below+x.pops)+" ."+below+x.pushes+falling(below+x.pushes))
		}
		for i := range x.pops {
			other := "w"
			if x.pops[i] == 'w' {
				other = "l"
			}
			wrong := x.pops[:i] + other + x.pops[i+1:]
			refused(t, 2, consts(wrong)+word+" end", api.ErrStack, len(wrong))
			refused(t, 2, consts(x.pops[i+1:])+word+" end", api.ErrStack, len(x.pops)-i-1)
			refused(t, 2, consts("wl"+wrong)+word+" end", api.ErrStack, len(wrong)+2)
		}
	}
}

// TestRows: each row that is not plain, kept.
func TestRows(t *testing.T) {
	for _, x := range []struct {
		number       int
		code, shapes string
	}{
		{2, "block:2 end end", ". . ."},
		{2, "w.const block:1 end drop end", ". w w w ."},
		{2, "w.const w.const l.const block:3 drop drop l.const w.const end drop drop drop end", ". w ww wwl wwl ww w wl wlw wlw wl w ."},
		{2, "loop:2 end end", ". . ."},
		{2, "l.const w.const l.const loop:3 drop drop l.const w.const end drop drop drop end", ". l lw lwl lwl lw l ll llw llw ll l ."},
		{2, "w.const if:2 end end", ". w . ."},
		{2, "w.const w.const if:1 end drop end", ". w ww w w ."},
		{2, "w.const l.const w.const if:3 drop drop l.const w.const else trap end drop drop end", ". w wl wlw wl w . l lw wl lw lw l ."},
		{2, "l.const w.const l.const w.const if:3 trap else drop drop l.const w.const end drop drop drop end", ". l lw lwl lwlw lwl llw lwl lw l ll llw llw ll l ."},
		{4, "w.const l.const br:0 end", ". w wl wl"},
		{4, "l.const w.const l.const br:0 end", ". l lw lwl wl"},
		{4, "w.const l.const w.const brif:0 end", ". w wl wlw wl"},
		{2, "l.const w.const brif:0 drop end", ". l lw l ."},
		{4, "w.const l.const w.const brtable:0 end", ". w wl wlw wl"},
		{4, "w.const l.const return end", ". w wl wl"},
		{4, "l.const l.const w.const l.const return end", ". l ll llw llwl wl"},
		{4, "trap end", ". wl"},
		{4, "w.const trap end", ". w wl"},
		{2, "w.const l.const call:1 drop drop end", ". w wl lw l ."},
		{2, "l.const w.const l.const call:1 drop drop drop end", ". l lw lwl llw ll l ."},
		{2, "l.const call:2 end", ". l ."},
		{2, "call:0 end", ". ."},
		{2, "w.const l.const host:0 drop drop end", ". w wl lw l ."},
		{2, "host:1 end", ". ."},
		{2, "w.const drop l.const drop end", ". w . l ."},
		{2, "w.const w.const w.const select drop end", ". w ww www w ."},
		{2, "w.const l.const l.const w.const select drop drop end", ". w wl wll wllw wl w ."},
		{2, "get:0 get:1 set:1 tee:0 set:0 end", ". l lw l l ."},
		{3, "get:0 set:3 get:1 set:2 get:2 get:3 end", ". w . l . l lw"},
		{2, "gget:0 gget:1 gset:1 gset:2 gget:3 gset:1 end", ". w wl w . l ."},
		{2, "w.const gset:2 gget:2 drop end", ". w . w ."},
	} {
		taken(t, x.number, x.code, x.shapes)
	}
}

// TestQuestions: what each row asks, not kept: each question by itself, and two at once, of which the first one tells the error.
func TestQuestions(t *testing.T) {
	for _, x := range []struct {
		number int
		code   string
		e      api.Errno
		pc     int
	}{
		{2, "block:9 end end", api.ErrIndex, 0},
		{2, "block:1 end drop end", api.ErrStack, 0},
		{2, "l.const block:1 end drop end", api.ErrStack, 1},
		{2, "l.const w.const block:3 end end", api.ErrStack, 2},
		{2, "loop:9 end end", api.ErrIndex, 0},
		{2, "loop:1 end drop end", api.ErrStack, 0},
		{2, "l.const loop:1 end drop end", api.ErrStack, 1},
		{2, "w.const if:9 end end", api.ErrIndex, 1},
		{2, "if:9 end end", api.ErrIndex, 0},
		{2, "if:2 end end", api.ErrStack, 0},
		{2, "l.const if:2 end end", api.ErrStack, 1},
		{2, "w.const if:1 end drop end", api.ErrStack, 1},
		{2, "w.const l.const if:1 end drop end", api.ErrStack, 2},
		{2, "l.const w.const if:1 end drop end", api.ErrStack, 2},
		{2, "w.const if:2 w.const else end end", api.ErrStack, 3},
		{2, "w.const if:0 else w.const end drop end", api.ErrStack, 2},
		{2, "w.const if:0 l.const else w.const end drop end", api.ErrStack, 3},
		{2, "w.const if:0 w.const w.const else w.const end drop end", api.ErrStack, 4},
		{2, "w.const if:2 else w.const end end", api.ErrStack, 4},
		{2, "block:0 end drop end", api.ErrStack, 1},
		{2, "block:0 l.const end drop end", api.ErrStack, 2},
		{2, "block:2 w.const end drop end", api.ErrStack, 2},
		{2, "w.const loop:6 end drop end", api.ErrStack, 2},
		{2, "w.const if:0 w.const end drop end", api.ErrElse, 3},
		{2, "w.const if:0 end drop end", api.ErrStack, 2},
		{2, "w.const if:0 l.const end drop end", api.ErrStack, 3},
		{2, "w.const end", api.ErrStack, 1},
		{0, "l.const end", api.ErrStack, 1},
		{4, "l.const w.const end", api.ErrStack, 2},
		{4, "w.const w.const l.const end", api.ErrStack, 3},
		{2, "br:1 end", api.ErrLabel, 0},
		{0, "br:0 end", api.ErrStack, 0},
		{0, "l.const br:0 end", api.ErrStack, 1},
		{0, "br:1 end", api.ErrLabel, 0},
		{2, "w.const brif:1 end", api.ErrLabel, 1},
		{2, "brif:1 end", api.ErrLabel, 0},
		{2, "brif:0 end", api.ErrStack, 0},
		{2, "l.const brif:0 end", api.ErrStack, 1},
		{0, "w.const brif:0 end", api.ErrStack, 1},
		{0, "l.const w.const brif:0 end", api.ErrStack, 2},
		{0, "w.const l.const brif:0 end", api.ErrStack, 2},
		{2, "w.const brtable:1 end", api.ErrLabel, 1},
		{2, "block:0 w.const w.const brtable:0,1 end drop end", api.ErrLabels, 3},
		{2, "brtable:0 end", api.ErrStack, 0},
		{2, "l.const brtable:0 end", api.ErrStack, 1},
		{0, "w.const brtable:0 end", api.ErrStack, 1},
		{2, "block:0 brtable:0,1,2 end drop end", api.ErrLabel, 1},
		{2, "block:0 brtable:0,1 end drop end", api.ErrLabels, 1},
		{0, "return end", api.ErrStack, 0},
		{0, "l.const return end", api.ErrStack, 1},
		{4, "l.const return end", api.ErrStack, 1},
		{2, "call:4 end", api.ErrIndex, 0},
		{2, "call:1 end", api.ErrStack, 0},
		{2, "l.const w.const call:1 end", api.ErrStack, 2},
		{2, "l.const call:1 end", api.ErrStack, 1},
		{2, "host:3 end", api.ErrIndex, 0},
		{2, "host:0 end", api.ErrStack, 0},
		{2, "l.const w.const host:0 end", api.ErrStack, 2},
		{2, "drop end", api.ErrStack, 0},
		{2, "select end", api.ErrStack, 0},
		{2, "w.const select end", api.ErrStack, 1},
		{2, "w.const w.const select end", api.ErrStack, 2},
		{2, "w.const l.const w.const select end", api.ErrStack, 3},
		{2, "l.const w.const w.const select end", api.ErrStack, 3},
		{2, "w.const w.const l.const select end", api.ErrStack, 3},
		{2, "l.const l.const l.const select end", api.ErrStack, 3},
		{2, "get:2 end", api.ErrIndex, 0},
		{2, "w.const set:2 end", api.ErrIndex, 1},
		{2, "set:2 end", api.ErrIndex, 0},
		{2, "set:0 end", api.ErrStack, 0},
		{2, "w.const set:0 end", api.ErrStack, 1},
		{2, "l.const set:1 end", api.ErrStack, 1},
		{2, "w.const tee:2 drop end", api.ErrIndex, 1},
		{2, "tee:2 end", api.ErrIndex, 0},
		{2, "tee:1 end", api.ErrStack, 0},
		{2, "l.const tee:1 drop end", api.ErrStack, 1},
		{2, "gget:4 end", api.ErrIndex, 0},
		{2, "gset:4 end", api.ErrIndex, 0},
		{2, "w.const gset:0 end", api.ErrMutable, 1},
		{2, "l.const gset:3 end", api.ErrMutable, 1},
		{2, "gset:0 end", api.ErrMutable, 0},
		{2, "l.const gset:0 end", api.ErrMutable, 1},
		{2, "gset:1 end", api.ErrStack, 0},
		{2, "w.const gset:1 end", api.ErrStack, 1},
		{2, "l.const gset:2 end", api.ErrStack, 1},
	} {
		refused(t, x.number, x.code, x.e, x.pc)
	}
}

// at is a list of -1, but at those places.
func at(count int, places map[int]int) []int {
	list := slices.Repeat([]int{-1}, count)
	for place, v := range places {
		list[place] = v
	}
	return list
}

// TestTable: all five of a table, of a code with each opener, one in the other.
func TestTable(t *testing.T) {
	got := taken(t, 1, "l.const w.const block:1 loop:1 get:0 if:2 nop else l.const drop end w.const if:1 w.clz end end end return end",
		". l lw lw lw lww lw lw lw lwl lw lw lww lw lw lw lw lw w")
	if want := at(19, map[int]int{2: 16, 3: 15, 5: 10, 7: 10, 12: 14}); !slices.Equal(got.Ends, want) {
		t.Errorf("P10.1: Ends %d, not %d", got.Ends, want)
	}
	if want := at(19, map[int]int{5: 7}); !slices.Equal(got.Elses, want) {
		t.Errorf("P10.1: Elses %d, not %d", got.Elses, want)
	}
	if want := at(19, map[int]int{2: 1, 3: 1, 5: 2, 12: 1}); !slices.Equal(got.Floors, want) {
		t.Errorf("P10.1: Floors %d, not %d", got.Floors, want)
	}
	if got.Highest != 3 {
		t.Errorf("P10.1: Highest %d", got.Highest)
	}
	for code, want := range map[string]int{"end": 0, "trap end": 0, "w.const drop end": 1, "block:7 trap end drop*8 end": 8, "w.const l.const*4 drop*5 end": 5} {
		if got := asked(of(2, code), 0); got.e != api.OK || got.table.Highest != want {
			t.Errorf("P10.1: %s: Highest %d, not %d", code, got.table.Highest, want)
		}
	}
}

// many is that word so many times.
func many(word string, count int) string {
	return word + "*" + strconv.Itoa(count) + " "
}

// highest: the code, of a function of the type - -> -, is taken, and comes to just 256 letters.
func highest(t *testing.T, code string) {
	t.Helper()
	if got := asked(of(2, code), 0); got.e != api.OK || got.table.Highest != 256 {
		t.Errorf("P10.1: %s: %d, %d, Highest %d", code, got.e, got.pc, got.table.Highest)
	}
}

// TestHigh: 256 letters, and 257, which are refused at the instruction that puts the last one on.
func TestHigh(t *testing.T) {
	for word, count := range map[string]int{"w.const": 1, "l.const": 1, "size": 1, "get:0": 1, "get:1": 1, "gget:0": 1, "gget:3": 1, "call:3": 8, "host:2": 8} {
		for _, letter := range []string{"w.const", "l.const"} {
			full := 256 - count
			highest(t, many(letter, full)+word+" trap end")
			refused(t, 2, many(letter, full+1)+word+" trap end", api.ErrHigh, full+1)
			refused(t, 2, many(letter, 256)+word+" trap end", api.ErrHigh, 256)
		}
	}
	for word, top := range map[string]string{"w.add": "ww", "w.eqz": "w", "tee:1": "w", "w.wrap": "l", "l.extends": "w", "call:1": "wl", "host:0": "wl", "select": "www", "brif:0": "w", "block:2 end": "w", "loop:1 end": "w", "if:1 end": "ww", "w.store": "ww", "set:1": "w", "gset:2": "w", "nop": "w"} {
		highest(t, many("l.const", 256-len(top))+consts(top)+word+" trap end")
	}
	refused(t, 2, many("w.const", 257)+"end", api.ErrHigh, 256)
	refused(t, 2, many("w.const", 300)+"drop end", api.ErrHigh, 256)
}

// TestHighBehind: what stands behind a way's end may be too high, too; that is the way's end's fault.
func TestHighBehind(t *testing.T) {
	for _, way := range []string{"trap", "br:1", "w.const brtable:1", "return"} {
		pc := 249 + len(written(way))
		highest(t, many("w.const", 248)+"block:7 "+way+" end trap end")
		highest(t, many("w.const", 249)+"if:7 "+way+" else "+way+" end trap end")
		refused(t, 2, many("w.const", 249)+"block:7 "+way+" end trap end", api.ErrHigh, pc)
		refused(t, 2, many("w.const", 249)+"loop:7 "+way+" end trap end", api.ErrHigh, pc)
		refused(t, 2, many("w.const", 250)+"if:7 "+way+" else "+way+" end trap end", api.ErrHigh, pc+1)
		refused(t, 2, many("w.const", 249)+"block:7 "+way+" nop end trap end", api.ErrHigh, pc)
	}
}

// TestFloors: what lies below the floor of a block, a loop, an if or an else can't be taken, nor asked for.
func TestFloors(t *testing.T) {
	below := map[string]string{
		"drop": "w", "select": "www", "w.eqz": "w", "w.add": "ww", "w.store": "ww", "l.store": "wl", "set:1": "w", "tee:0": "l", "gset:2": "w", "call:1": "wl", "host:0": "wl",
		"block:1 end": "w", "loop:1 end": "w", "if:2 end": "w", "if:1 end": "ww", "brif:0": "w", "brtable:0": "w",
	}
	for word, letters := range below {
		for split := range len(letters) {
			low, high := letters[:len(letters)-split], letters[len(letters)-split:]
			for opener, pcs := range map[string]int{"block:2": 1, "loop:2": 1, "w.const if:2": 2, "w.const if:2 else": 3} {
				code := consts(low) + opener + " " + consts(high) + word + " trap end trap end"
				refused(t, 2, code, api.ErrStack, len(letters)+pcs)
			}
		}
	}
	for opener, pcs := range map[string]int{"block:2": 1, "loop:2": 1, "w.const if:2": 2, "w.const if:2 else": 3} {
		refused(t, 0, "w.const "+opener+" return end end", api.ErrStack, 1+pcs)
		refused(t, 0, "w.const "+opener+" br:1 end end", api.ErrStack, 1+pcs)
		refused(t, 4, "w.const "+opener+" l.const return end end", api.ErrStack, 2+pcs)
		refused(t, 0, "w.const "+opener+" w.const brif:1 end end", api.ErrStack, 2+pcs)
		refused(t, 0, "w.const "+opener+" w.const brtable:1 end end", api.ErrStack, 2+pcs)
	}
	// What an opener's type takes lies above its floor, and so can be taken; no more than that.
	taken(t, 2, "l.const w.const block:1 drop w.const end drop drop end", ". l lw lw l lw lw l .")
	refused(t, 2, "l.const w.const block:1 drop drop end drop end", api.ErrStack, 4)
	taken(t, 2, "l.const w.const loop:6 drop l.const end drop drop end", ". l lw lw l ll ll l .")
	refused(t, 2, "l.const w.const loop:6 drop drop end drop end", api.ErrStack, 4)
	refused(t, 2, "l.const w.const w.const if:1 drop drop end drop end", api.ErrStack, 5)
	refused(t, 2, "l.const w.const w.const if:1 else drop drop end drop end", api.ErrStack, 6)
	// Behind the end the floor is the one around it again.
	taken(t, 2, "l.const block:2 w.const block:2 end drop end drop end", ". l l lw lw lw l l .")
	refused(t, 2, "l.const block:2 w.const block:2 end drop drop end end", api.ErrStack, 6)
}

// TestFloorNumbers: of each opener the height below what its type takes.
func TestFloorNumbers(t *testing.T) {
	for code, want := range map[string]int{"block:2": 2, "block:1": 1, "block:8": 0, "loop:2": 2, "loop:1": 1, "loop:8": 0, "if:2": 1, "if:1": 0} {
		got := asked(of(2, "w.const w.const "+code+" trap end trap end"), 0)
		if code == "if:1" || code == "if:2" {
			got = asked(of(2, "w.const w.const "+code+" trap else trap end trap end"), 0)
		}
		if got.e != api.OK || got.table.Floors[2] != want || slices.Max(got.table.Floors) != want {
			t.Errorf("P10.1: %s: %d, Floors %d, not %d", code, got.e, got.table.Floors, want)
		}
	}
}

// ways are the ways' ends, in a function of the type - -> w, and what stands ahead of them.
var ways = map[string]string{"trap": "", "br:0": "w.const", "brtable:0": "w.const w.const", "brtable:0,0": "w.const w.const", "return": "w.const"}

// TestWayEnds: an else and an end may stand behind each, and nothing else.
func TestWayEnds(t *testing.T) {
	for way, ahead := range ways {
		code := ahead + " " + way
		pc := len(written(code))
		for op, word := range wordOf {
			if word == "else" || word == "end" {
				continue
			}
			m := one(code + " " + word + " end")
			m.Functions[0].Code[pc].L = slices.Repeat([]int{0}, strings.Count(word, "brtable"))
			if word == "block" || word == "loop" || word == "if" {
				m.Functions[0].Code = append(m.Functions[0].Code, written("end")...)
			}
			if got := asked(m, 0); got.e != api.ErrDead || got.pc != pc || !sameTable(got.table, api.Table{}) {
				t.Errorf("P10.1: %02x behind %s: %v", op, way, got)
			}
		}
		shapes := "." + rising("", pushed(ahead))
		taken(t, 0, code+" end", shapes+" w")
		taken(t, 0, "block:0 "+code+" end end", ". "+shapes+" w w")
		taken(t, 0, "w.const if:0 "+code+" else "+code+" end end", ". w "+shapes+" w "+shapes+" w w")
		taken(t, 0, "l.const block:0 "+code+" end return end", ". l l"+rising("l", pushed(ahead))+" lw lw w")
		taken(t, 0, "w.const loop:1 "+code+" end end", ". w w"+rising("w", pushed(ahead))+" w w")
		refused(t, 0, "block:0 "+code+" nop end end", api.ErrDead, pc+1)
		refused(t, 0, "w.const if:0 "+code+" "+way+" else "+code+" end end", api.ErrDead, pc+2)
		refused(t, 0, "w.const if:0 "+code+" else "+code+" nop end end", api.ErrDead, 2*pc+3)
		refused(t, 0, "w.const if:0 "+code+" end end", api.ErrElse, pc+2)
	}
	taken(t, 2, "w.const if:2 trap end end", ". w . . .")
	taken(t, 0, "block:0 trap end trap end", ". . w w w")
}

// pushed is the letters that those constants put on.
func pushed(code string) string {
	out := ""
	for _, word := range strings.Fields(code) {
		out += word[:1]
	}
	return out
}

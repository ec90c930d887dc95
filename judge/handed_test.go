package judge_test

import (
	"math"
	"slices"
	"strconv"
	"strings"
	"testing"

	"flagon/api"
	"flagon/judge"
	"flagon/module"
)

// TestFunctionNumbers: the functions that there are, each with its own shapes; and others, with any.
func TestFunctionNumbers(t *testing.T) {
	m := of(0, "w.const end")
	all := [][]string{shapesOf(". w"), shapesOf(". l lw"), shapesOf("."), shapesOf(". wwwwwwww")}
	for number := range m.Functions {
		for of, shapes := range all {
			if judge.Holds(m, number, shapes) != (number == of) {
				t.Errorf("P11.1: function %d, shapes of %d: %t", number, of, number != of)
			}
		}
	}
	for _, number := range []int{-1, -2, -4, 4, 5, 127, 128, 1000, math.MaxInt32, math.MinInt32, math.MaxInt, math.MinInt} {
		for _, shapes := range append(all, nil, []string{}, []string{""}) {
			if judge.Holds(m, number, shapes) {
				t.Errorf("P11.1: function %d, of %q: true", number, shapes)
			}
		}
	}
	for _, number := range []int{-1, 0, 1, math.MaxInt, math.MinInt} {
		for _, shapes := range [][]string{nil, {}, {""}} {
			if judge.Holds(api.Module{}, number, shapes) {
				t.Errorf("P11.1: function %d of none, of %q: true", number, shapes)
			}
		}
	}
}

// TestNoShapes: no shapes at all, whatever the code; a code of nothing has none, and is refused by control.Map.
func TestNoShapes(t *testing.T) {
	for _, code := range []string{"", "end", "trap end", "nop", "nop end"} {
		for _, shapes := range [][]string{nil, {}} {
			if judge.Holds(of(2, code), 0, shapes) {
				t.Errorf("P11.1: %q, of no shapes: true", code)
			}
		}
	}
	m := of(2, "")
	for _, code := range [][]api.Ins{nil, {}} {
		m.Functions[0].Code = code
		for _, shapes := range [][]string{nil, {}, {""}, {"w"}} {
			if judge.Holds(m, 0, shapes) {
				t.Errorf("P11.1: no code, of %q: true", shapes)
			}
		}
	}
}

// TestUntold: modules that module.Check refuses, though nothing else would be broken.
func TestUntold(t *testing.T) {
	for n, change := range []func(*api.Module){
		func(m *api.Module) { m.Types = append(m.Types, m.Types[0]) },
		func(m *api.Module) { m.Types = append(m.Types, api.Sig{Params: "x"}) },
		func(m *api.Module) { m.Types = append(m.Types, api.Sig{Params: "wwwwwwwww"}) },
		func(m *api.Module) { m.Types = append(m.Types, make([]api.Sig, 60)...) },
		func(m *api.Module) { m.Hosts[2] = len(m.Types) },
		func(m *api.Module) { m.Hosts[2] = -1 },
		func(m *api.Module) { m.Hosts = slices.Repeat(m.Hosts, 11) },
		func(m *api.Module) { m.Globals[3].Letter = 'x' },
		func(m *api.Module) { m.Globals[0].Value = 1 << 32 },
		func(m *api.Module) { m.Globals = slices.Repeat(m.Globals, 17) },
		func(m *api.Module) { m.First = -1 },
		func(m *api.Module) { m.First = 3 },
		func(m *api.Module) { m.Most = 65 },
		func(m *api.Module) { m.Functions[3].Type = len(m.Types) },
		func(m *api.Module) { m.Functions[3].Type = -1 },
		func(m *api.Module) { m.Functions[0].Locals = "x" },
		func(m *api.Module) { m.Functions[0].Locals = strings.Repeat("w", 65) },
		func(m *api.Module) { m.Functions[3].Code = slices.Repeat(written("nop"), 2049) },
		func(m *api.Module) { m.Functions = slices.Repeat(m.Functions, 33) },
		func(m *api.Module) { m.Functions[3].Code[0] = api.Ins{Op: 0xff} },
		func(m *api.Module) { m.Functions[3].Code[0] = api.Ins{Op: 0x07, A: -1} },
		func(m *api.Module) { m.Functions[3].Code[0] = api.Ins{Op: 0x09} },
		func(m *api.Module) { m.Functions[0].Code[1].A = 1 },
		func(m *api.Module) { m.Functions[0].Code[1].L = []int{0} },
		func(m *api.Module) { m.Functions[0].Code[0].A = 1 << 31 },
		func(m *api.Module) { m.Data = append(m.Data, m.Data[0]) },
		func(m *api.Module) { m.Data[0].B = nil },
		func(m *api.Module) { m.Exports[0].Name = "" },
		func(m *api.Module) { m.Exports[1].Function = 4 },
		func(m *api.Module) { m.Exports[1].Name = "f" },
	} {
		m, shapes := of(0, "w.const end"), shapesOf(". w")
		if !judge.Holds(m, 0, shapes) {
			t.Fatal("P11.1: the module as it was: false")
		}
		change(&m)
		if module.Check(m) == api.OK {
			t.Fatalf("%d is not refused", n)
		}
		if judge.Holds(m, 0, shapes) {
			t.Errorf("P11.1: %d: true", n)
		}
		if judge.Holds(m, 1, shapesOf(". l lw")) || judge.Holds(m, 3, shapesOf(". wwwwwwww")) || judge.Holds(m, -1, shapes) || judge.Holds(m, 0, nil) {
			t.Errorf("P11.1: %d: true of another function", n)
		}
	}
	// Numbers that module.Check refuses in the function itself.
	for _, x := range []api.Ins{{Op: 0x07, A: -1}, {Op: 0x07, A: math.MinInt64}, {Op: 0x07, A: 1 << 32}, {Op: 0x09}, {Op: 0x09, L: []int{-1}}, {Op: 0x09, L: []int{math.MinInt}}, {Op: 0x02, A: -1}, {Op: 0x0b, A: -1}, {Op: 0x0c, A: -1}, {Op: 0x12, A: -1}, {Op: 0x15, A: -1}, {Op: 0xff}} {
		m := of(2, "nop trap end")
		m.Functions[0].Code[0] = x
		for _, shapes := range []string{". . .", ". w .", ". l ."} {
			if judge.Holds(m, 0, shapesOf(shapes)) {
				t.Errorf("P11.1: %v, of %s: true", x, shapes)
			}
		}
	}
}

// TestNesting: codes that control.Map refuses, with shapes that would fit; and the deepest that it takes.
func TestNesting(t *testing.T) {
	for code, shapes := range map[string]string{
		"nop":                                   ".",
		"trap":                                  ".",
		"block:2 end":                           ". .",
		"end nop":                               ". .",
		"end end":                               ". .",
		"end trap end":                          ". . .",
		"trap end end":                          ". . .",
		"else end":                              ". .",
		"trap else end":                         ". . .",
		"block:2 else end end":                  ". . . .",
		"loop:2 else end end":                   ". . . .",
		"w.const if:2 else else end end":        ". w . . . .",
		"w.const if:2 end else end":             ". w . . .",
		"w.const if:2 block:2 else end end end": ". w . . . . .",
		"block:2*33 end*34":                     ".*67",
		"loop:2*33 end*34":                      ".*67",
		"block:2*32 w.const if:2 end end*33":    ".*33 w .*34",
	} {
		m, list := of(2, code), shapesOf(shapes)
		if len(list) != len(m.Functions[0].Code) {
			t.Fatalf("%s: %d shapes", code, len(list))
		}
		justOf(t, m, list, "code")
	}
	for code, shapes := range map[string]string{
		"block:2*32 end*33":                  ".*65",
		"loop:2*32 br:31 end*33":             ".*66",
		"block:2*31 w.const if:2 end end*32": ".*32 w .*33",
		"block:2 end block:2 end end":        ".*5",
	} {
		if list := shapesOf(shapes); !judge.Holds(of(2, code), 0, list) {
			t.Errorf("P11.1: %s, of %q: false", code, list)
		}
	}
}

// TestBeside: what other functions do is not asked.
func TestBeside(t *testing.T) {
	for _, code := range []string{"", "nop", "end nop", "drop end", "br:9 end", "trap nop end", "block:99 end end"} {
		m := of(0, "w.const l.const call:1 drop drop w.const end")
		m.Functions[1].Code = written(code)
		if !judge.Holds(m, 0, shapesOf(". w wl lw l . w")) {
			t.Errorf("P11.1: beside %q: false", code)
		}
		low(len(m.Functions[1].Code), func(list []string) {
			if judge.Holds(m, 1, list) {
				t.Fatalf("P11.1: %q, of %q: true", code, list)
			}
		})
	}
}

// risen is the shapes of so many constants of that letter, and one more.
func risen(letter string, count int) []string {
	var list []string
	for high := range count + 1 {
		list = append(list, strings.Repeat(letter, high))
	}
	return list
}

// TestHigh: 256 letters are a shape; 257 are none, though all rows hold.
func TestHigh(t *testing.T) {
	for _, letter := range []string{"w", "l"} {
		word := letter + ".const*"
		if m := of(2, word+"256 trap end"); !judge.Holds(m, 0, append(risen(letter, 256), "")) {
			t.Errorf("P11.1: 256 letters %s: false", letter)
		}
		justOf(t, of(2, word+"257 trap end"), append(risen(letter, 257), ""), "257 shape")
		justOf(t, of(2, word+"258 drop trap end"), append(risen(letter, 258), strings.Repeat(letter, 257), ""), "257 shape", "258 shape", "259 shape")
	}
	// What stands behind a way's end: the base and the results.
	for _, opener := range []string{"block:7", "loop:7"} {
		for base, name := range map[int]string{248: "", 249: "shape"} {
			m := of(2, "w.const*"+strconv.Itoa(base)+" "+opener+" trap end trap end")
			left := strings.Repeat("w", base+8)
			shapes := append(risen("w", base), strings.Repeat("w", base), left, left, "")
			if name == "" && !judge.Holds(m, 0, shapes) {
				t.Errorf("P11.1: %s over %d: false", opener, base)
			}
			if name != "" {
				justOf(t, m, shapes, fault(base+2, name), fault(base+3, name))
			}
		}
	}
}

// TestGreatest: the longest code that there may be, and a text at a few of its places that is another one.
func TestGreatest(t *testing.T) {
	full := strings.Repeat("wl", 128)
	m := of(2, consts(full)+"nop*1790 trap end")
	code := m.Functions[0].Code
	var shapes []string
	for pc := range code {
		shapes = append(shapes, full[:min(pc, 256)])
	}
	shapes[len(code)-1] = ""
	if len(code) != 2048 || !judge.Holds(m, 0, shapes) {
		t.Fatalf("P11.1: %d instructions: false", len(code))
	}
	for pc := 0; pc < len(code); pc += 89 {
		others := slices.Clone(shapes)
		if others[pc] += "w"; len(others[pc]) > 256 {
			others[pc] = others[pc][1:]
		}
		if judge.Holds(m, 0, others) {
			t.Errorf("P11.1: another text at %d: true", pc)
		}
	}
	if judge.Holds(m, 0, shapes[1:]) || judge.Holds(m, 0, append(slices.Clone(shapes), "")) || judge.Holds(m, 0, slices.Repeat([]string{""}, 1<<20)) || judge.Holds(of(2, "end"), 0, []string{strings.Repeat("w", 1<<24)}) {
		t.Error("P11.1: true of what is no list of shapes of it")
	}
}

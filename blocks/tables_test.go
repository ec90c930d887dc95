package blocks_test

import (
	"math"
	"math/rand"
	"slices"
	"testing"

	"flagon/api"
	"flagon/blocks"
	"flagon/validate"
)

// otherLists are lists that differ from that one: at one place, by their length, nil.
func otherLists(list []int) [][]int {
	out := [][]int{nil, {}, list[:len(list)-1], list[1:], append(slices.Clone(list), -1), append(slices.Clone(list), len(list)), append([]int{-1}, list...)}
	for at, right := range list {
		for _, wrong := range []int{-1, -2, 0, right - 1, right + 1, len(list), math.MinInt, math.MaxInt} {
			if wrong != right {
				other := slices.Clone(list)
				other[at] = wrong
				out = append(out, other)
			}
		}
	}
	return slices.DeleteFunc(out, func(other []int) bool { return slices.Equal(other, list) })
}

// TestOtherTables: Ends and Elses are just what control.Map says, or there is no answer.
func TestOtherTables(t *testing.T) {
	for _, text := range []string{
		"end", "nop nop end", "block nop end nop end", "loop nop end end", "if nop end end", "if nop else nop end end", "if else end end",
		"block loop if br:2 else brif:1 end end end end", "if if end else if else end end end", "call:0 nop*20 end",
	} {
		code := written(text)
		right := wantTable(code)
		for _, other := range otherLists(right.Ends) {
			zeroOf(t, code, api.Table{Ends: other, Elses: right.Elses})
		}
		for _, other := range otherLists(right.Elses) {
			zeroOf(t, code, api.Table{Ends: right.Ends, Elses: other})
		}
		if text != "end" && !slices.Equal(right.Ends, right.Elses) {
			zeroOf(t, code, api.Table{Ends: right.Elses, Elses: right.Ends})
		}
		zeroOf(t, code, api.Table{})
		hold(t, code)
	}
}

// TestTableOfAnother code is none of this one, though that one is as long.
func TestTableOfAnother(t *testing.T) {
	r := rand.New(rand.NewSource(122))
	for range 500 {
		code, other := drawn(r, 1+r.Intn(30), r.Intn(9)), drawn(r, 1+r.Intn(30), r.Intn(9))
		right, table := wantTable(code), wantTable(other)
		if !slices.Equal(right.Ends, table.Ends) || !slices.Equal(right.Elses, table.Elses) {
			zeroOf(t, code, table)
		} else if !same(blocks.Of(code, table), wantOf(code)) {
			t.Fatalf("P12.2: Of %s with the table of %s", told(code), told(other))
		}
	}
}

// TestNotLookedAt: Shapes, Floors and Highest are of any kind.
func TestNotLookedAt(t *testing.T) {
	for _, text := range []string{"end", "block nop end nop end", "if nop else nop end end", "nop*20 end"} {
		code := written(text)
		want := wantOf(code)
		for _, shapes := range [][]string{nil, {}, {"w"}, {"77", "\xff", ""}, slices.Repeat([]string{"wl"}, 400)} {
			for _, floors := range [][]int{nil, {}, {math.MinInt}, {3, -1, math.MaxInt}, slices.Repeat([]int{-9}, 400)} {
				for _, highest := range []int{0, 1, -1, math.MinInt, math.MaxInt} {
					table := wantTable(code)
					table.Shapes, table.Floors, table.Highest = shapes, floors, highest
					if b := blocks.Of(code, table); !same(b, want) {
						t.Fatalf("P12.2: Of %s with shapes %q, floors %v, highest %d: %v", text, shapes, floors, highest, b)
					}
					table.Ends = append(table.Ends, -1)
					zeroOf(t, code, table)
				}
			}
		}
	}
}

// TestValidatorsTables: those of functions that may run are taken as they are.
func TestValidatorsTables(t *testing.T) {
	m := api.Module{Types: []api.Sig{{}, {Results: "w"}, {Params: "w", Results: "w"}}, Hosts: []int{0}, Most: 1}
	for _, text := range []string{
		"end", "call:0 host:0 nop end", "block:0 br:0 end end", "loop:0 w.const:1 brif:0 end nop*40 end",
		"w.const if:0 nop else call:0 end end", "w.const if:1 w.const else w.const:2 end drop return end", "w.const loop:2 w.const brtable:0,0 end drop trap end",
	} {
		m.Functions = append(m.Functions, api.Function{Code: written(text)})
	}
	tables, e, number, pc := validate.Module(m)
	if e != api.OK {
		t.Fatalf("%d in function %d at %d", e, number, pc)
	}
	for at, f := range m.Functions {
		if b := blocks.Of(f.Code, tables[at]); !same(b, wantOf(f.Code)) {
			t.Errorf("P12.2: Of %s: %v", told(f.Code), b)
		}
		if next := (at + 1) % len(tables); len(tables[next].Ends) != len(f.Code) {
			zeroOf(t, f.Code, tables[next])
		}
	}
}

package blocks_test

import (
	"math/rand"
	"reflect"
	"slices"
	"testing"

	"flagon/api"
	"flagon/blocks"
)

// roomy is a list with spare room that has v in it.
func roomy[T any](list []T, v T) []T {
	return append(slices.Clone(list), v, v, v)[:len(list)]
}

// whole is a list with its spare room.
func whole[T any](list []T) []T {
	return slices.Clone(list[:cap(list)])
}

func roomyCode(code []api.Ins) []api.Ins {
	out := roomy(code, api.Ins{Op: 0x77, A: 77, L: []int{7, 7}})
	for at := range out {
		out[at].L = roomy(out[at].L, 77)
	}
	return out
}

func wholeCode(code []api.Ins) []api.Ins {
	out := whole(code)
	for at := range out {
		out[at].L = whole(out[at].L)
	}
	return out
}

func wholeTable(table api.Table) api.Table {
	table.Shapes, table.Ends, table.Elses, table.Floors = whole(table.Shapes), whole(table.Ends), whole(table.Elses), whole(table.Floors)
	return table
}

// TestArguments: neither the code nor the table is changed, spare room neither, whether there is an answer or none.
func TestArguments(t *testing.T) {
	r := rand.New(rand.NewSource(125))
	for n := range 600 {
		code := drawn(r, 1+r.Intn(40), r.Intn(9))
		table := wantTable(code)
		if n%3 == 0 {
			code[r.Intn(len(code))].Op = byte(r.Intn(13))
		}
		if n%3 == 1 {
			table.Elses[r.Intn(len(code))]--
		}
		code = roomyCode(code)
		table = api.Table{Shapes: roomy([]string{"w"}, "77"), Ends: roomy(table.Ends, 77), Elses: roomy(table.Elses, 77), Floors: roomy([]int{1}, 77), Highest: 5}
		codeBefore, tableBefore := wholeCode(code), wholeTable(table)
		blocks.Leaders(code)
		blocks.Of(code, table)
		if !reflect.DeepEqual(wholeCode(code), codeBefore) {
			t.Fatalf("R5: %s is changed", told(code))
		}
		if !reflect.DeepEqual(wholeTable(table), tableBefore) {
			t.Fatalf("R5: the table of %s is changed", told(code))
		}
	}
}

// spoil overwrites a list and its spare room.
func spoil[T any](list []T, v T) {
	list = list[:cap(list)]
	for at := range list {
		list[at] = v
	}
}

// TestAnswers: each list is memory of its own, spare room too, and two calls answer the same.
func TestAnswers(t *testing.T) {
	r := rand.New(rand.NewSource(126))
	for range 400 {
		code := drawn(r, 1+r.Intn(40), r.Intn(9))
		table, leaders, want := wantTable(code), wantLeaders(code), wantOf(code)
		codeBefore, tableBefore := wholeCode(code), wholeTable(table)
		spoil(blocks.Leaders(code), true)
		spoil(blocks.Leaders(code), false)
		if list := blocks.Leaders(code); !slices.Equal(list, leaders) {
			t.Fatalf("R6: Leaders of %s, again: %v", told(code), list)
		}
		first := blocks.Of(code, table)
		spoil(first.Start, 12345)
		if !slices.Equal(first.Left, want.Left) {
			t.Fatalf("R5: Start and Left of %s share memory", told(code))
		}
		spoil(first.Left, 12345)
		if second := blocks.Of(code, table); !same(second, want) || !slices.Equal(blocks.Leaders(code), leaders) {
			t.Fatalf("R6: Of %s, again: %v", told(code), second)
		}
		if !reflect.DeepEqual(wholeCode(code), codeBefore) || !reflect.DeepEqual(wholeTable(table), tableBefore) {
			t.Fatalf("R5: an answer of %s shares memory with what was handed in", told(code))
		}
	}
}

// TestKept: what was handed in is not kept; changed afterwards, it is answered anew, and the answers of before stay.
func TestKept(t *testing.T) {
	code := written("block nop end nop end")
	table := wantTable(code)
	leaders, b := blocks.Leaders(code), blocks.Of(code, table)
	code[1] = api.Ins{Op: opcode("call")}
	table.Ends[1], table.Elses[1] = 7, 7
	if !slices.Equal(places(leaders), []int{0, 3}) || !slices.Equal(b.Start, []int{0, 0, 0, 3, 3}) || !slices.Equal(b.Left, []int{3, 2, 1, 2, 1}) {
		t.Errorf("R5: answers changed: %v, %v", leaders, b)
	}
	zeroOf(t, code, table)
	hold(t, code)
}

// TestNone: a list that is nil and one without elements are the same.
func TestNone(t *testing.T) {
	refused(t, nil)
	refused(t, []api.Ins{})
	refused(t, make([]api.Ins, 0, 9))
	for _, labels := range [][]int{nil, {}, make([]int, 0, 4)} {
		code := written("nop brtable nop end")
		code[1].L = labels
		hold(t, code)
	}
}

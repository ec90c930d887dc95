package control_test

import (
	"math/rand"
	"slices"
	"testing"

	"flagon/api"
	"flagon/control"
)

// roomy is the same code in lists with spare room, which holds something.
func roomy(code []api.Ins) []api.Ins {
	out := append(copied(code), api.Ins{Op: 0x77, A: 77, L: []int{7, 7}}, api.Ins{Op: 0x78})
	for i := range out {
		out[i].L = append(out[i].L, 70, 71)[:len(out[i].L)]
	}
	return out[:len(code)]
}

// whole is a code with its spare room, and that of each list.
func whole(code []api.Ins) []api.Ins {
	out := slices.Clone(code[:cap(code)])
	for i := range out {
		out[i].L = slices.Clone(out[i].L[:cap(out[i].L)])
	}
	return out
}

// TestArguments: neither the code nor a list of labels is changed, the spare room neither.
func TestArguments(t *testing.T) {
	r := rand.New(rand.NewSource(95))
	for n := range 600 {
		code := roomy(drawn(r, 1+r.Intn(40), 1+r.Intn(8)))
		if n%3 == 0 {
			code[r.Intn(len(code))].Op = byte(r.Intn(11))
		}
		before := whole(code)
		control.Map(code)
		for pc := -1; pc <= len(code); pc++ {
			control.Labels(code, pc)
			control.Next(code, pc)
		}
		if !sameCode(whole(code), before) {
			t.Fatalf("R5: %s is changed", told(code))
		}
	}
}

// spoil overwrites a list and its spare room.
func spoil(list []int) {
	list = list[:cap(list)]
	for i := range list {
		list[i] = 12345
	}
}

// TestAnswers: each list is memory of its own, spare room too, and no answer hangs on an earlier one.
func TestAnswers(t *testing.T) {
	r := rand.New(rand.NewSource(96))
	for range 300 {
		code := drawn(r, 1+r.Intn(40), 1+r.Intn(8))
		before, d := copied(code), read(code)
		want := d.wantMap()
		for spoilt := range 3 {
			m := ask(code)
			lists := [][]int{m.ends, m.elses, m.owners}
			spoil(lists[spoilt])
			for at, list := range [][]int{want.ends, want.elses, want.owners} {
				if at != spoilt && !slices.Equal(lists[at], list) {
					t.Fatalf("R5: list %d and %d of Map of %s share memory", spoilt, at, told(code))
				}
			}
		}
		for pc := range code {
			spoil(control.Labels(code, pc))
			spoil(control.Next(code, pc))
			holdAt(t, d, pc)
		}
		if !sameCode(code, before) || !same(ask(code), want) {
			t.Fatalf("R5: answers of %s share memory with it", told(code))
		}
	}
}

// TestNone: a list that is nil and one without elements are the same.
func TestNone(t *testing.T) {
	refused(t, nil, api.ErrCut, 0)
	refused(t, []api.Ins{}, api.ErrCut, 0)
	refused(t, make([]api.Ins, 0, 9), api.ErrCut, 0)
	for _, l := range [][]int{nil, {}, make([]int, 0, 4)} {
		code := written("block brtable end end")
		code[1].L = l
		hold(t, code)
		if places := control.Next(code, 1); len(places) != 0 {
			t.Errorf("P9.3: a brtable without labels: %v", places)
		}
	}
}

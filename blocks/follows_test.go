package blocks_test

import (
	"math/rand"
	"slices"
	"strconv"
	"testing"

	"flagon/api"
	"flagon/blocks"
	"flagon/control"
)

// ask is Of with the table that control.Map tells.
func ask(t *testing.T, code []api.Ins) api.Blocks {
	t.Helper()
	ends, elses, _, e, pc := control.Map(code)
	if e != api.OK {
		t.Fatalf("%s: %d at %d", told(code), e, pc)
	}
	b := blocks.Of(code, api.Table{Ends: ends, Elses: elses})
	if len(b.Start) != len(code) || len(b.Left) != len(code) {
		t.Fatalf("P12.2: Of %s: %v", told(code), b)
	}
	return b
}

// apart: each instruction lies in just one segment, each segment has 1 to 16, and begins at its leader or where one is full.
func apart(t *testing.T, code []api.Ins) {
	t.Helper()
	b, list := ask(t, code), blocks.Leaders(code)
	covered := make([]int, len(code))
	for start := range code {
		if b.Start[start] != start {
			continue
		}
		size := b.Left[start]
		if size < 1 || size > 16 || start+size > len(code) {
			t.Fatalf("W4: Of %s: %v", told(code), b)
		}
		for pc := start; pc < start+size; pc++ {
			covered[pc]++
			if b.Start[pc] != start || b.Left[pc] != start+size-pc || pc > start && list[pc] {
				t.Fatalf("W4: Of %s, at %d: %v", told(code), pc, b)
			}
		}
		if !list[start] && b.Left[start-1] == 1 && start-b.Start[start-1] != 16 {
			t.Fatalf("P12.2: Of %s: nothing begins at %d: %v", told(code), start, b)
		}
	}
	for pc, count := range covered {
		if count != 1 {
			t.Fatalf("W4: Of %s: %d lies in %d segments", told(code), pc, count)
		}
	}
}

// goesOn: but for the last all go to the next pc alone; whatever else control goes to is a segment's beginning.
func goesOn(t *testing.T, code []api.Ins) {
	t.Helper()
	b := ask(t, code)
	for pc := range code {
		to := control.Next(code, pc)
		if b.Left[pc] > 1 {
			if !slices.Equal(to, []int{pc + 1}) {
				t.Fatalf("W4: %s: from %d control goes to %v, within a segment", told(code), pc, to)
			}
			continue
		}
		for _, place := range to {
			if place < len(code) && b.Start[place] != place {
				t.Fatalf("W4: %s: from %d control goes to %d, where no segment begins", told(code), pc, place)
			}
		}
	}
}

func TestSegments(t *testing.T) {
	r := rand.New(rand.NewSource(123))
	for range 1500 {
		code := drawn(r, 1+r.Intn(100), r.Intn(33))
		apart(t, code)
		goesOn(t, code)
	}
	for _, count := range []int{15, 16, 17, 31, 32, 33, 2048} {
		code := slices.Concat(written("nop*"+strconv.Itoa(count-1)), written("end"))
		apart(t, code)
	}
	apart(t, drawn(r, 2048, 32))
	apart(t, written("block*32 end*33"))
	goesOn(t, written("block*32 end*33"))
	goesOn(t, written("if*32 end*33"))
}

// TestSegmentsOfSmall goes through all codes of up to five words, branches of each kind among them.
func TestSegmentsOfSmall(t *testing.T) {
	kinds := written("block loop if else end br:0 brif:1 brtable:0,1 return trap call nop")
	var grow func(code []api.Ins, left int)
	grow = func(code []api.Ins, left int) {
		whole := append(slices.Clone(code), api.Ins{Op: opcode("end")})
		if _, _, _, e, _ := control.Map(whole); e == api.OK {
			apart(t, whole)
			goesOn(t, whole)
		}
		if left == 0 {
			return
		}
		for _, x := range kinds {
			grow(append(slices.Clone(code), x), left-1)
		}
	}
	grow(nil, 4)
}

// TestPaid walks where control can go. Whoever pays Left where a segment is entered has paid, when it is left, for just what was executed; stopped within it, he gets back what is left.
func TestPaid(t *testing.T) {
	r := rand.New(rand.NewSource(124))
	for range 1000 {
		code := drawn(r, 1+r.Intn(60), r.Intn(12))
		b := ask(t, code)
		pc, paid, executed := 0, 0, 0
		for range 1 + r.Intn(80) {
			if b.Start[pc] == pc {
				if paid != executed {
					t.Fatalf("W4: %s: %d paid, %d executed, at %d", told(code), paid, executed, pc)
				}
				paid += b.Left[pc]
			}
			executed++
			if back := b.Left[pc] - 1; paid-back != executed {
				t.Fatalf("W4: %s: %d paid, %d back, %d executed, at %d", told(code), paid, back, executed, pc)
			}
			to := control.Next(code, pc)
			if len(to) == 0 {
				break
			}
			if pc = to[r.Intn(len(to))]; pc == len(code) {
				break
			}
		}
	}
}

package nums_test

import (
	"math"
	"math/rand"
	"slices"
	"strings"
	"testing"

	"flagon/api"
	"flagon/nums"
	"flagon/ops"
)

// one tells whether the word has one operand.
func one(word string) bool {
	name := word[2:]
	return slices.Contains([]string{"eqz", "clz", "ctz", "pop"}, name) || strings.Contains(wordsOfTurns, word)
}

func TestExamples(t *testing.T) {
	for _, x := range []struct {
		word    string
		a, b, v uint64
		trap    int8
	}{
		{"w.sub", 0, 1, 4294967295, 0},
		{"l.sub", 0, 1, math.MaxUint64, 0},
		{"w.shl", 1, 33, 2, 0},
		{"w.shrs", 1 << 31, 31, 4294967295, 0},
		{"w.shru", 1 << 31, 31, 1, 0},
		{"w.rotl", 1 << 31, 1, 1, 0},
		{"w.divs", 1 << 31, 4294967295, 0, api.TrapRange},
		{"w.rems", 1 << 31, 4294967295, 0, 0},
		{"w.divu", 1 << 31, 4294967295, 0, 0},
		{"w.divs", 4294967289, 2, 4294967293, 0},
		{"w.rems", 4294967289, 2, 4294967295, 0},
		{"w.clz", 0, 0, 32, 0},
		{"w.ctz", 0, 0, 32, 0},
		{"l.clz", 1, 0, 63, 0},
		{"l.pop", 255, 0, 8, 0},
		{"l.extends", 1 << 31, 0, 1<<64 - 1<<31, 0},
		{"w.ext8", 128, 0, 4294967168, 0},
		{"l.ext32", 1 << 31, 0, 1<<64 - 1<<31, 0},
		{"w.eqz", 1 << 32, 0, 1, 0},
		{"l.remu", 7, 0, 0, api.TrapZero},
	} {
		if v, trap := nums.Do(opcode(x.word), x.a, x.b); v != x.v || trap != x.trap {
			t.Errorf("P7.2: %s %d %d: %d, %d, not %d, %d", x.word, x.a, x.b, v, trap, x.v, x.trap)
		}
	}
}

func TestAllOpcodes(t *testing.T) {
	if len(listed()) != 56 {
		t.Fatalf("%d words", len(listed()))
	}
	words := map[byte]string{}
	for word, op := range listed() {
		words[op] = word
	}
	for i := range 256 {
		op := byte(i)
		word, is := words[op]
		if nums.Of(op) != is {
			t.Errorf("P7.1: Of(%02x): %v", op, nums.Of(op))
		}
		row, known := ops.Of(op)
		if is && (!known || row.Word != word) {
			t.Errorf("P7.1: %02x is %s, not %s", op, row.Word, word)
		}
		for _, a := range edges() {
			v, trap := nums.Do(op, a, a^1)
			if is && trap == api.TrapOp {
				t.Errorf("P7.2: %s %d %d: TrapOp", word, a, a^1)
			}
			if !is && (v != 0 || trap != api.TrapOp) {
				t.Errorf("P7.2: %02x %d %d: %d, %d, not 0, TrapOp", op, a, a^1, v, trap)
			}
		}
	}
}

func held(t *testing.T, word string, op byte, a, b uint64) {
	t.Helper()
	want, wantTrap := expected(word, a, b)
	if v, trap := nums.Do(op, a, b); v != want || trap != wantTrap {
		t.Errorf("P7.2: %s %d %d: %d, %d, not %d, %d", word, a, b, v, trap, want, wantTrap)
	}
}

func TestEdges(t *testing.T) {
	list := edges()
	for word, op := range listed() {
		for _, a := range list {
			for _, b := range list {
				held(t, word, op, a, b)
			}
		}
	}
}

func TestDrawn(t *testing.T) {
	r := rand.New(rand.NewSource(71))
	for word, op := range listed() {
		for range 2000 {
			held(t, word, op, drawn(r), drawn(r))
		}
	}
}

func TestEqualOperands(t *testing.T) {
	for word, op := range listed() {
		for _, a := range edges() {
			held(t, word, op, a, a)
			held(t, word, op, a, a^1<<32)
			held(t, word, op, a, a^1<<63)
		}
	}
}

func TestHighBitsDoNotCount(t *testing.T) {
	r := rand.New(rand.NewSource(72))
	for word, op := range listed() {
		if word[0] != 'w' {
			continue
		}
		for range 1000 {
			a, b := drawn(r), drawn(r)
			v, trap := nums.Do(op, a&math.MaxUint32, b&math.MaxUint32)
			if v > math.MaxUint32 {
				t.Errorf("P7.2: %s %d %d: %d has high bits", word, a, b, v)
			}
			for _, x := range [][2]uint64{{r.Uint64(), 0}, {0, r.Uint64()}, {math.MaxUint64, math.MaxUint64}} {
				a, b := a&math.MaxUint32|x[0]>>32<<32, b&math.MaxUint32|x[1]>>32<<32
				if v2, trap2 := nums.Do(op, a, b); v2 != v || trap2 != trap {
					t.Errorf("P7.2: %s %d %d: %d, %d, not %d, %d", word, a, b, v2, trap2, v, trap)
				}
			}
		}
	}
}

func TestTopDoesNotMatter(t *testing.T) {
	for word, op := range listed() {
		if !one(word) {
			continue
		}
		for _, a := range edges() {
			v, trap := nums.Do(op, a, 0)
			for _, b := range edges() {
				if v2, trap2 := nums.Do(op, a, b); v2 != v || trap2 != trap {
					t.Errorf("P7.2: %s %d: %d, %d beside %d", word, a, v2, trap2, b)
				}
			}
		}
	}
}

func TestTraps(t *testing.T) {
	for _, x := range []struct {
		letter string
		n      int
		high   uint64
	}{{"w.", 32, 0}, {"w.", 32, 9 << 32}, {"l.", 64, 0}} {
		least, minus := uint64(1)<<(x.n-1)|x.high, uint64(math.MaxUint64)>>(64-x.n)|x.high
		for _, word := range []string{"divs", "divu", "rems", "remu"} {
			op := opcode(x.letter + word)
			for _, a := range append(edges(), least, minus) {
				if v, trap := nums.Do(op, a, x.high); v != 0 || trap != api.TrapZero {
					t.Errorf("P7.2: %s%s %d by 0: %d, %d", x.letter, word, a, v, trap)
				}
			}
		}
		for _, y := range []struct {
			word    string
			a, b, v uint64
			trap    int8
		}{
			{"divs", least, minus, 0, api.TrapRange},
			{"rems", least, minus, 0, 0},
			{"divu", least, minus, 0, 0},
			{"remu", least, minus, 1 << (x.n - 1), 0},
			{"divs", least + 1, minus, 1<<(x.n-1) - 1, 0},
			{"divs", least, 1, 1 << (x.n - 1), 0},
			{"divs", minus, minus, 1, 0},
			{"divs", minus, least, 0, 0},
			{"divs", least, least, 1, 0},
			{"divs", least, minus - 1, 1 << (x.n - 2), 0},
		} {
			if v, trap := nums.Do(opcode(x.letter+y.word), y.a, y.b); v != y.v || trap != y.trap {
				t.Errorf("P7.2: %s%s %d %d: %d, %d, not %d, %d", x.letter, y.word, y.a, y.b, v, trap, y.v, y.trap)
			}
		}
	}
}

func TestPlaces(t *testing.T) {
	numbers := []uint64{0, 1, 1 << 31, 1 << 63, 1<<31 | 1, 1<<63 | 1, math.MaxUint32, math.MaxUint64, 0x123456789abcdef1}
	for _, word := range strings.Fields("shl shrs shru rotl rotr") {
		for letter, n := range map[string]uint64{"w.": 32, "l.": 64} {
			op := opcode(letter + word)
			for _, a := range numbers {
				for _, k := range []uint64{0, 1, n / 2, n - 1, n, n + 1, 2*n - 1, 2 * n, 3*n + 5, 1 << 31, 1<<32 - 1, 1 << 32, 1<<32 + 3, 1 << 63, math.MaxUint64} {
					held(t, letter+word, op, a, k)
					v, trap := nums.Do(op, a, k)
					if v2, trap2 := nums.Do(op, a, k%n); v != v2 || trap != 0 || trap2 != 0 {
						t.Errorf("P7.2: %s%s %d %d: %d, by %d %d", letter, word, a, k, v, k%n, v2)
					}
				}
			}
		}
	}
}

func TestCountsOfNone(t *testing.T) {
	for _, x := range []struct {
		word string
		a, v uint64
	}{
		{"w.clz", 0, 32}, {"w.ctz", 0, 32}, {"w.pop", 0, 0},
		{"l.clz", 0, 64}, {"l.ctz", 0, 64}, {"l.pop", 0, 0},
		{"w.clz", 1 << 32, 32}, {"w.ctz", 1 << 32, 32}, {"w.pop", 1<<64 - 1<<32, 0},
		{"w.clz", math.MaxUint32, 0}, {"w.ctz", 1 << 31, 31}, {"w.pop", math.MaxUint64, 32},
		{"l.clz", math.MaxUint64, 0}, {"l.ctz", 1 << 63, 63}, {"l.pop", math.MaxUint64, 64},
		{"l.clz", 1 << 31, 32}, {"l.ctz", 1 << 32, 32}, {"w.clz", 1, 31},
	} {
		if v, trap := nums.Do(opcode(x.word), x.a, 0); v != x.v || trap != api.TrapNone {
			t.Errorf("P7.2: %s %d: %d, %d, not %d", x.word, x.a, v, trap, x.v)
		}
	}
}

package nums_test

import (
	"math/big"
	"math/rand"
	"strings"

	"flagon/api"
)

// The instructions of numbers, in the order of their opcodes.
const (
	wordsOfBoth  = "eqz eq ne lts ltu les leu clz ctz pop add sub mul divs divu rems remu and or xor shl shrs shru rotl rotr"
	wordsOfTurns = "w.wrap l.extends l.extendu w.ext8 w.ext16 l.ext32"
)

// listed is every instruction of numbers by its word.
func listed() map[string]byte {
	out := map[string]byte{}
	for i, word := range strings.Fields(wordsOfBoth) {
		out["w."+word] = byte(0x30 + i)
		out["l."+word] = byte(0x50 + i)
	}
	for i, word := range strings.Fields(wordsOfTurns) {
		out[word] = byte(0x70 + i)
	}
	return out
}

var opcodes = listed()

// opcode is the opcode of a word that is listed.
func opcode(word string) byte {
	op, ok := opcodes[word]
	if !ok {
		panic("no word of numbers: " + word)
	}
	return op
}

func whole(v uint64) *big.Int { return new(big.Int).SetUint64(v) }

func power(n int) *big.Int { return new(big.Int).Lsh(big.NewInt(1), uint(n)) }

// low is v modulo 2^n, whatever its sign.
func low(v *big.Int, n int) *big.Int { return new(big.Int).Mod(v, power(n)) }

// below is the number whose highest bit of n counts -2^(n - 1).
func below(v *big.Int, n int) *big.Int {
	v = low(v, n)
	if v.Bit(n-1) == 1 {
		v.Sub(v, power(n))
	}
	return v
}

func truth(x bool) *big.Int {
	if x {
		return big.NewInt(1)
	}
	return new(big.Int)
}

// expected is what the chapter says that a word answers, worked out by whole numbers that have no end.
func expected(word string, a, b uint64) (uint64, int8) {
	if v := turned(word, whole(a)); v != nil {
		return v.Uint64(), api.TrapNone
	}
	n := 32
	if word[0] == 'l' {
		n = 64
	}
	x, y := low(whole(a), n), low(whole(b), n)
	v, trap := answered(word[2:], n, x, y)
	if trap != api.TrapNone {
		return 0, trap
	}
	return low(v, n).Uint64(), api.TrapNone
}

// turned is the answer of a word that makes wide or narrow, nil of another one.
func turned(word string, a *big.Int) *big.Int {
	switch word {
	case "w.wrap", "l.extendu":
		return low(a, 32)
	case "l.extends", "l.ext32":
		return low(below(a, 32), 64)
	case "w.ext8":
		return low(below(a, 8), 32)
	case "w.ext16":
		return low(below(a, 16), 32)
	}
	return nil
}

func answered(word string, n int, x, y *big.Int) (*big.Int, int8) {
	sx, sy, v := below(x, n), below(y, n), new(big.Int)
	switch word {
	case "eqz":
		return truth(x.Sign() == 0), 0
	case "eq":
		return truth(x.Cmp(y) == 0), 0
	case "ne":
		return truth(x.Cmp(y) != 0), 0
	case "lts":
		return truth(sx.Cmp(sy) < 0), 0
	case "ltu":
		return truth(x.Cmp(y) < 0), 0
	case "les":
		return truth(sx.Cmp(sy) <= 0), 0
	case "leu":
		return truth(x.Cmp(y) <= 0), 0
	case "add":
		return v.Add(x, y), 0
	case "sub":
		return v.Sub(x, y), 0
	case "mul":
		return v.Mul(x, y), 0
	case "and":
		return v.And(x, y), 0
	case "or":
		return v.Or(x, y), 0
	case "xor":
		return v.Xor(x, y), 0
	case "clz", "ctz", "pop":
		return counted(word, n, x), 0
	case "divs", "divu", "rems", "remu":
		return parted(word, n, x, y)
	}
	return moved(word, n, x, int(low(y, 6).Int64())%n), 0
}

// counted looks at the bits one by one.
func counted(word string, n int, x *big.Int) *big.Int {
	highest, lowest, ones := -1, n, 0
	for i := range n {
		if x.Bit(i) == 1 {
			highest, lowest, ones = i, min(lowest, i), ones+1
		}
	}
	return big.NewInt(int64(map[string]int{"clz": n - 1 - highest, "ctz": lowest, "pop": ones}[word]))
}

func parted(word string, n int, x, y *big.Int) (*big.Int, int8) {
	if y.Sign() == 0 {
		return nil, api.TrapZero
	}
	if word[3] == 's' {
		x, y = below(x, n), below(y, n)
	}
	quotient, left := new(big.Int).QuoRem(x, y, new(big.Int))
	if word[:3] == "rem" {
		return left, 0
	}
	if word == "divs" && quotient.Cmp(power(n-1)) == 0 {
		return nil, api.TrapRange
	}
	return quotient, 0
}

// moved puts each bit where it goes.
func moved(word string, n int, x *big.Int, k int) *big.Int {
	v := new(big.Int)
	for i := range n {
		from := map[string]int{"shl": i - k, "shru": i + k, "shrs": min(i+k, n-1), "rotl": (i - k + n) % n, "rotr": (i + k) % n}[word]
		if from >= 0 && from < n {
			v.SetBit(v, i, x.Bit(from))
		}
	}
	return v
}

// edges are the numbers where a width ends, and some between.
func edges() []uint64 {
	out := []uint64{0, 1, 2, 3, 5, 7, 10, 100, 255, 12345, 0x80, 0x7f, 0x8000, 0x7fff, 0xff80, 0xffff8000, 31, 32, 33, 63, 64, 65, 95, 96, 127, 128}
	for _, n := range []int{16, 31, 32, 33, 63} {
		p := uint64(1) << n
		out = append(out, p-1, p, p+1, -p)
	}
	for i := uint64(1); i < 9; i++ {
		out = append(out, -i, 1<<32-i)
	}
	return append(out, 0x123456789abcdef0, 0xdeadbeefcafebabe, 0x5555555555555555, 0xaaaaaaaaaaaaaaaa, 1<<32+1<<31, 5<<32+31, 7<<32)
}

// drawn is a number of any length, now and then near 0 or near the end of a width.
func drawn(r *rand.Rand) uint64 {
	v := r.Uint64() >> r.Intn(64)
	switch r.Intn(6) {
	case 0:
		return -v
	case 1:
		return uint64(uint32(-v))
	case 2:
		return edges()[r.Intn(len(edges()))]
	}
	return v
}

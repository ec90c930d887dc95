package nums_test

import (
	"math"
	"math/rand"
	"testing"

	"flagon/api"
	"flagon/nums"
)

// hand asks the words of one letter.
type hand struct {
	t      *testing.T
	letter string
	n      uint64
	mask   uint64
}

// do is the answer of a word that must not trap.
func (h hand) do(word string, a, b uint64) uint64 {
	h.t.Helper()
	v, trap := nums.Do(opcode(h.letter+word), a, b)
	if trap != api.TrapNone {
		h.t.Errorf("%s%s %d %d: trap %d", h.letter, word, a, b, trap)
	}
	return v
}

func (h hand) alike(what string, a, b, got, want uint64) {
	h.t.Helper()
	if got != want {
		h.t.Errorf("what follows: %s%s, of %d and %d: %d, not %d", h.letter, what, a, b, got, want)
	}
}

// far is how far a signed number is from 0.
func (h hand) far(a uint64) uint64 {
	if a>>(h.n-1) == 1 {
		return -a & h.mask
	}
	return a
}

func (h hand) divided(a, b uint64) {
	h.t.Helper()
	left := h.do("remu", a, b)
	h.alike("divu times b and remu", a, b, (h.do("divu", a, b)*b+left)&h.mask, a)
	if left >= b {
		h.t.Errorf("what follows: %sremu %d %d: %d", h.letter, a, b, left)
	}
	left = h.do("rems", a, b)
	if a != 1<<(h.n-1) || b != h.mask {
		h.alike("divs times b and rems", a, b, (h.do("divs", a, b)*b+left)&h.mask, a)
	}
	if left != 0 && left>>(h.n-1) != a>>(h.n-1) || h.far(left) >= h.far(b) {
		h.t.Errorf("what follows: %srems %d %d: %d", h.letter, a, b, left)
	}
}

func (h hand) ordered(a, b uint64) {
	h.t.Helper()
	for _, below := range []string{"lts", "ltu"} {
		h.alike("just one of below, is, above by "+below, a, b, h.do(below, a, b)+h.do("eq", a, b)+h.do(below, b, a), 1)
		orIs := "le" + below[2:]
		h.alike(orIs, a, b, h.do(orIs, a, b), h.do(below, a, b)+h.do("eq", a, b))
	}
	h.alike("ne", a, b, h.do("ne", a, b), 1-h.do("eq", a, b))
}

func (h hand) turned(a, b uint64) {
	h.t.Helper()
	h.alike("rotr of rotl", a, b, h.do("rotr", h.do("rotl", a, b), b), a)
	h.alike("rotl of rotr", a, b, h.do("rotl", h.do("rotr", a, b), b), a)
	h.alike("shl", a, b, h.do("shl", a, b), h.do("mul", a, 1<<(b%h.n)))
	round := h.do("xor", b, h.mask)
	h.alike("sub", a, b, h.do("sub", a, b), h.do("add", h.do("add", a, round), 1))
}

func TestFollows(t *testing.T) {
	r := rand.New(rand.NewSource(73))
	for _, h := range []hand{{t, "w.", 32, math.MaxUint32}, {t, "l.", 64, math.MaxUint64}} {
		for range 5000 {
			a, b := drawn(r)&h.mask, drawn(r)&h.mask
			if r.Intn(8) == 0 {
				b = a
			}
			h.ordered(a, b)
			h.turned(a, b)
			if b != 0 {
				h.divided(a, b)
			}
		}
	}
}

func TestWideAndBack(t *testing.T) {
	r := rand.New(rand.NewSource(74))
	turn := func(word string, a uint64) uint64 { return hand{t: t}.do(word, a, 0) }
	for range 5000 {
		a := drawn(r)
		w := a & math.MaxUint32
		for _, word := range []string{"l.extends", "l.extendu"} {
			if v := turn("w.wrap", turn(word, w)); v != w {
				t.Errorf("what follows: w.wrap of %s %d: %d", word, w, v)
			}
		}
		for _, word := range []string{"w.ext8", "w.ext16", "l.ext32"} {
			if v := turn(word, a); turn(word, v) != v {
				t.Errorf("what follows: %s of %s %d: %d", word, word, a, turn(word, v))
			}
		}
	}
}

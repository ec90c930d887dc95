package nums

import (
	"math/bits"

	"flagon/api"
)

// unsigned: a number of either width as its bits.
type unsigned interface{ uint32 | uint64 }

// signed: the same bits, the highest of them below 0. A function that has both is given two of one width.
type signed interface{ int32 | int64 }

// number: the answer of a word, in either width.
func number[U unsigned, S signed](word byte, a, b U) (U, int8) {
	switch {
	case word <= wordLeu:
		if holds[U, S](word, a, b) {
			return 1, api.TrapNone
		}
		return 0, api.TrapNone
	case word <= wordPop:
		return count(word, a), api.TrapNone
	case word <= wordMul:
		return sum(word, a, b), api.TrapNone
	case word <= wordRemu:
		return divide[U, S](word, a, b)
	case word <= wordXor:
		return mix(word, a, b), api.TrapNone
	}
	return shift[U, S](word, a, b), api.TrapNone
}

// width: how many bits a number has.
func width[U unsigned]() U {
	return U(bits.Len64(uint64(^U(0))))
}

// holds: is a to b as the word says?
func holds[U unsigned, S signed](word byte, a, b U) bool {
	switch word {
	case wordEqz:
		b = 0
		fallthrough
	case wordEq:
		return a == b
	case wordLes:
		if a == b {
			return true
		}
		fallthrough
	case wordLts:
		return S(a) < S(b)
	case wordLeu:
		if a == b {
			return true
		}
		fallthrough
	case wordLtu:
		return a < b
	}
	return a != b
}

// count: how many bits of a are as the word says. The bits are told in 64, so that n says how many of the noughts are those of a narrow number, and of 0.
func count[U unsigned](word byte, a U) U {
	n, wide := width[U](), uint64(a)
	switch word {
	case wordClz:
		return n - U(bits.Len64(wide))
	case wordCtz:
		return min(n, U(bits.TrailingZeros64(wide)))
	}
	return U(bits.OnesCount64(wide))
}

// sum: the kinds of integers wrap round at just 2^n.
func sum[U unsigned](word byte, a, b U) U {
	switch word {
	case wordSub:
		b = -b
		fallthrough
	case wordAdd:
		return a + b
	}
	return a * b
}

// fault: why a is not divided by b, if it is not.
func fault[U unsigned](word byte, a, b U) int8 {
	switch word {
	case wordDivs:
		if least := U(1) << (width[U]() - 1); a == least && b == ^U(0) {
			return api.TrapRange
		}
		fallthrough
	default:
		if b == 0 {
			return api.TrapZero
		}
	}
	return api.TrapNone
}

// divide: the quotient or what is left, or 0 and the trap.
func divide[U unsigned, S signed](word byte, a, b U) (U, int8) {
	if trap := fault(word, a, b); trap != api.TrapNone {
		return 0, trap
	}
	switch word {
	case wordDivs:
		return U(S(a) / S(b)), api.TrapNone
	case wordDivu:
		return a / b, api.TrapNone
	case wordRems:
		return U(S(a) % S(b)), api.TrapNone
	}
	return a % b, api.TrapNone
}

// mix: a and b, bit by bit.
func mix[U unsigned](word byte, a, b U) U {
	switch word {
	case wordAnd:
		return a & b
	case wordOr:
		return a | b
	}
	return a ^ b
}

// shift: the bits of a moved by b modulo n places. A shift by all n places leaves 0, which a turn by none needs.
func shift[U unsigned, S signed](word byte, a, b U) U {
	n := width[U]()
	k := b % n
	switch word {
	case wordShl:
		return a << k
	case wordShrs:
		return U(S(a) >> k)
	case wordShru:
		return a >> k
	case wordRotr:
		k = n - k
		fallthrough
	default:
		return a<<k | a>>(n-k)
	}
}

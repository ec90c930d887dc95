// Package wire is layer 1: numbers and texts as bytes, each in one form alone. See shared/doc/01-wire.md.
package wire

import "flagon/api"

const (
	groupBits = 7
	groupMask = 1<<groupBits - 1
	moreBit   = 1 << groupBits // set in every byte but a number's last one
	mostBytes = 10             // 64 bits in groups of 7
	signShift = 63
)

// Uvar tells v in groups of 7 bits, the lowest first, in as few bytes as hold it.
func Uvar(v uint64) []byte {
	var groups [mostBytes]byte
	n := 0
	for ; v > groupMask; n++ {
		groups[n] = byte(v&groupMask) | moreBit
		v >>= groupBits
	}
	groups[n] = byte(v)
	return join(groups[:n+1])
}

// Svar tells v as Uvar does, the sign folded into the lowest bit so that small numbers stay short on both sides of 0.
func Svar(v int64) []byte {
	return Uvar(fold(v))
}

// Text tells the length of s, then its bytes.
func Text(s string) []byte {
	return join(Uvar(uint64(len(s))), []byte(s))
}

// ReadUvar reads what Uvar writes from at on, and tells the place behind it.
func ReadUvar(b []byte, at int) (uint64, int, api.Errno) {
	if !within(b, at) {
		return 0, 0, api.ErrArg
	}
	var v uint64
	for i, c := range b[at:] {
		if i == mostBytes-1 && c > 1 { // one bit of the 64 is left for the tenth byte
			return 0, 0, api.ErrWide
		}
		v |= uint64(c&groupMask) << (groupBits * i)
		if c&moreBit != 0 {
			continue
		}
		if c == 0 && i > 0 { // the number has a shorter form
			return 0, 0, api.ErrLoose
		}
		return v, at + i + 1, api.OK
	}
	return 0, 0, api.ErrEnd
}

// ReadSvar reads what Svar writes from at on, and tells the place behind it.
func ReadSvar(b []byte, at int) (int64, int, api.Errno) {
	u, next, e := ReadUvar(b, at)
	if e != api.OK {
		return 0, 0, e
	}
	return unfold(u), next, api.OK
}

// ReadCount reads a number of at most most.
func ReadCount(b []byte, at int, most int) (int, int, api.Errno) {
	return readBounded(b, at, most, api.ErrMany)
}

// ReadText reads what Text writes, of at most most bytes.
func ReadText(b []byte, at int, most int) (string, int, api.Errno) {
	n, start, e := readBounded(b, at, most, api.ErrLong)
	if e != api.OK {
		return "", 0, e
	}
	if n > len(b)-start {
		return "", 0, api.ErrEnd
	}
	return string(b[start : start+n]), start + n, api.OK
}

// readBounded answers the error above for a number greater than most.
func readBounded(b []byte, at, most int, above api.Errno) (int, int, api.Errno) {
	if !within(b, at) || most < 0 {
		return 0, 0, api.ErrArg
	}
	u, next, e := ReadUvar(b, at)
	if e != api.OK {
		return 0, 0, e
	}
	if u > uint64(most) { // as unsigned numbers: u may be too great for an int
		return 0, 0, above
	}
	return int(u), next, api.OK
}

// within: the place behind the last byte is one, too.
func within(b []byte, at int) bool {
	return at >= 0 && at <= len(b)
}

// fold: v from 0 on is 2v, below 0 it is -2v - 1; the arithmetic shift spreads the sign over all bits.
func fold(v int64) uint64 {
	return uint64(v)<<1 ^ uint64(v>>signShift)
}

// unfold: the number that fold makes u of.
func unfold(u uint64) int64 {
	return int64(u>>1) ^ -int64(u&1)
}

// join puts the parts behind one another in new memory, without spare room, so that an answer shares nothing.
func join(parts ...[]byte) []byte {
	n := 0
	for _, p := range parts {
		n += len(p)
	}
	out := make([]byte, 0, n)
	for _, p := range parts {
		out = append(out, p...)
	}
	return out
}

package debug

import "flagon/walk"

const (
	mostBytes = 64
	mostAt    = 1 << 32
)

// image: what is watched, as the memory holds it; 0 behind that.
type image [mostBytes]byte

// span: which bytes of the memory are watched.
type span struct {
	at uint64
	n  int
}

// watchable: may n bytes from at on be watched?
func watchable(at, n int) bool {
	return at >= 0 && int64(at) <= mostAt && n >= 1 && n <= mostBytes
}

// bytes: as they are now.
func (x span) bytes(w *walk.Walk) (now image) {
	for k := range x.n {
		now[k] = w.Byte(x.at + uint64(k))
	}
	return now
}

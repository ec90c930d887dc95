package snap

import (
	"math"

	"flagon/api"
	"flagon/wire"
)

// reader goes through bytes, one thing after the other. It keeps the first error and stays where what that is about begins; every number that it reads from there on is 0, counts too, so that nobody has to ask it between two things.
type reader struct {
	b  []byte
	at int
	e  api.Errno
}

// state goes through the document's table 'The bytes'.
func (r *reader) state() api.State {
	var s api.State
	s.End = r.octet(api.Suspended, api.Trapped)
	s.Trap = r.octet(api.TrapNone, api.TrapHost)
	s.Used = int64(r.number(api.MaxUsed, api.ErrRange))
	s.Replies = int(r.number(mostReplies, api.ErrRange))
	s.Results = readList(r, api.MaxArity, r.value)
	s.Globals = readList(r, api.MaxGlobal, r.value)
	s.Pages = r.pages()
	s.Frames = readList(r, api.MaxFrames, r.frame)
	return s
}

func (r *reader) frame() api.Frame {
	var f api.Frame
	f.Function = int(r.number(mostFunction, api.ErrRange))
	f.Pc = int(r.number(mostPc, api.ErrRange))
	f.Locals = readList(r, api.MaxLocals, r.value)
	f.Stack = readList(r, api.MaxStack, r.value)
	return f
}

// pages: those that are not written are of noughts.
func (r *reader) pages() [][]byte {
	list := make([][]byte, r.count(api.MaxPages))
	for k := range list {
		list[k] = make([]byte, api.Page)
	}
	least := 0
	for range r.count(len(list)) {
		k := r.pageNumber(least, len(list))
		p := r.page()
		copy(list[k], p[:])
		least = k + 1
	}
	return list
}

// pageNumber: one of so many pages, behind all those that were written ahead of it.
func (r *reader) pageNumber(least, count int) int {
	v, next, e := wire.ReadUvar(r.b, r.at)
	switch {
	case e != api.OK:
	case v >= uint64(count):
		e = api.ErrRange
	case v < uint64(least):
		e = api.ErrOrder
	}
	return int(r.take(v, next, e))
}

// page: one of noughts is not written, for it would be a second form of the same memory.
func (r *reader) page() page {
	var p page
	e := api.OK
	n := copy(p[:], r.b[r.at:])
	switch {
	case n < len(p):
		e = api.ErrEnd
	case p == (page{}):
		e = api.ErrLoose
	}
	r.take(0, r.at+n, e)
	return p
}

// readList: how many there are, and these, each by a method value of the reader.
func readList[T any](r *reader, most int, each func() T) []T {
	list := make([]T, r.count(most))
	for at := range list {
		list[at] = each()
	}
	return list
}

func (r *reader) count(most int) int {
	return int(r.number(uint64(most), api.ErrMany))
}

func (r *reader) value() uint64 {
	return r.number(math.MaxUint64, api.OK)
}

// number: one that is greater than most is refused by the error above.
func (r *reader) number(most uint64, above api.Errno) uint64 {
	v, next, e := wire.ReadUvar(r.b, r.at)
	if e == api.OK && v > most {
		e = above
	}
	return r.take(v, next, e)
}

func (r *reader) octet(least, most int8) int8 {
	if r.at == len(r.b) {
		return int8(r.take(0, 0, api.ErrEnd))
	}
	v := r.b[r.at]
	if v < byte(least) || v > byte(most) {
		return int8(r.take(0, 0, api.ErrRange))
	}
	return int8(r.take(uint64(v), r.at+1, api.OK))
}

// finish: nothing stands behind what was read.
func (r *reader) finish() {
	if r.at < len(r.b) {
		r.take(0, 0, api.ErrRest)
	}
}

// take goes on behind a thing and answers it, unless it is none or something ahead of it was none.
func (r *reader) take(v uint64, next int, e api.Errno) uint64 {
	if r.e == api.OK {
		r.e = e
	}
	if r.e != api.OK {
		return 0
	}
	r.at = next
	return v
}

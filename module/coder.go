package module

import (
	"flagon/api"
	"flagon/instr"
	"flagon/wire"
)

// coder goes one way between a module and its bytes, one thing after the other, so that both ways keep to one table. A call is handed what the module has there, and answers what the bytes have; a reader has no module yet, and does not look at what it is handed. What is asked of a thing is a closure that gets it and its place, ahead of all that stands behind it.
type coder interface {
	place() int
	count(n, most int) int
	number(v uint64, ask func(v uint64, at int)) uint64
	signed(v int64, ask func(v int64, at int)) int64
	octet(v byte, ask func(v byte, at int)) byte
	text(s string, most int, ask func(s string, at int)) string
	instruction(x api.Ins) api.Ins
}

// writer puts what it is handed behind its bytes, and answers it.
type writer struct{ b []byte }

func (w *writer) place() int {
	return len(w.b)
}

func (w *writer) put(b []byte) {
	w.b = append(w.b, b...)
}

func (w *writer) count(n, most int) int {
	must(n <= most, api.ErrMany, w.place())
	w.put(wire.Uvar(uint64(n)))
	return n
}

func (w *writer) number(v uint64, ask func(v uint64, at int)) uint64 {
	ask(v, w.place())
	w.put(wire.Uvar(v))
	return v
}

func (w *writer) signed(v int64, ask func(v int64, at int)) int64 {
	ask(v, w.place())
	w.put(wire.Svar(v))
	return v
}

func (w *writer) octet(v byte, ask func(v byte, at int)) byte {
	ask(v, w.place())
	w.put([]byte{v})
	return v
}

func (w *writer) text(s string, most int, ask func(s string, at int)) string {
	must(len(s) <= most, api.ErrLong, w.place())
	ask(s, w.place())
	w.put(wire.Text(s))
	return s
}

func (w *writer) instruction(x api.Ins) api.Ins {
	b, e := instr.Encode(x)
	must(e == api.OK, e, w.place())
	w.put(b)
	return x
}

// reader answers what stands at its place, and goes on behind it.
type reader struct {
	b  []byte
	at int
}

func (r *reader) place() int {
	return r.at
}

// pass goes on behind a thing, unless it is none.
func (r *reader) pass(next int, e api.Errno) {
	must(e == api.OK, e, r.at)
	r.at = next
}

func (r *reader) count(_, most int) int {
	n, next, e := wire.ReadCount(r.b, r.at, most)
	r.pass(next, e)
	return n
}

func (r *reader) number(_ uint64, ask func(v uint64, at int)) uint64 {
	at := r.at
	v, next, e := wire.ReadUvar(r.b, at)
	r.pass(next, e)
	ask(v, at)
	return v
}

func (r *reader) signed(_ int64, ask func(v int64, at int)) int64 {
	at := r.at
	v, next, e := wire.ReadSvar(r.b, at)
	r.pass(next, e)
	ask(v, at)
	return v
}

func (r *reader) octet(_ byte, ask func(v byte, at int)) byte {
	at := r.at
	must(at < len(r.b), api.ErrEnd, at)
	r.at++
	ask(r.b[at], at)
	return r.b[at]
}

func (r *reader) text(_ string, most int, ask func(s string, at int)) string {
	at := r.at
	s, next, e := wire.ReadText(r.b, at, most)
	r.pass(next, e)
	ask(s, at)
	return s
}

func (r *reader) instruction(_ api.Ins) api.Ins {
	x, next, e := instr.Decode(r.b, r.at)
	r.pass(next, e)
	return x
}

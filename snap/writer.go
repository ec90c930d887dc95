package snap

import (
	"math"

	"flagon/api"
	"flagon/wire"
)

// writer puts one thing behind the other. It keeps whether something that is asked did not hold; from there on it writes nothing, however much it is handed.
type writer struct {
	b   []byte
	bad bool
}

// state goes through the document's table 'The bytes'. As a number without a sign, one below 0 is too great.
func (w *writer) state(s api.State) {
	w.octet(s.End, api.Suspended, api.Trapped)
	w.octet(s.Trap, api.TrapNone, api.TrapHost)
	w.number(uint64(s.Used), api.MaxUsed)
	w.number(uint64(s.Replies), mostReplies)
	writeList(w, s.Results, api.MaxArity, w.value)
	writeList(w, s.Globals, api.MaxGlobal, w.value)
	w.pages(s.Pages)
	writeList(w, s.Frames, api.MaxFrames, w.frame)
}

func (w *writer) frame(f api.Frame) {
	w.number(uint64(f.Function), mostFunction)
	w.number(uint64(f.Pc), mostPc)
	writeList(w, f.Locals, api.MaxLocals, w.value)
	writeList(w, f.Stack, api.MaxStack, w.value)
}

// pages: how many there are, and those that are not all noughts.
func (w *writer) pages(list [][]byte) {
	w.number(uint64(len(list)), api.MaxPages)
	full := w.full(list)
	writeList(w, full, len(list), func(k int) {
		w.number(uint64(k), api.MaxPages)
		w.put(list[k]...)
	})
}

// full: the numbers of the pages that are not all noughts, rising.
func (w *writer) full(list [][]byte) []int {
	var numbers []int
	for k, b := range list {
		w.ask(len(b) == api.Page)
		if w.bad {
			return nil
		}
		var p page
		copy(p[:], b)
		if p != (page{}) {
			numbers = append(numbers, k)
		}
	}
	return numbers
}

// writeList: how many there are, and these, one by one.
func writeList[T any](w *writer, list []T, most int, each func(x T)) {
	w.number(uint64(len(list)), uint64(most))
	for _, x := range list {
		if w.bad { // a list that is too long is not gone through
			return
		}
		each(x)
	}
}

func (w *writer) value(v uint64) {
	w.number(v, math.MaxUint64)
}

func (w *writer) number(v, most uint64) {
	w.ask(v <= most)
	w.put(wire.Uvar(v)...)
}

func (w *writer) octet(v, least, most int8) {
	w.ask(v >= least && v <= most)
	w.put(byte(v))
}

func (w *writer) ask(holds bool) {
	w.bad = w.bad || !holds
}

func (w *writer) put(b ...byte) {
	if !w.bad {
		w.b = append(w.b, b...)
	}
}

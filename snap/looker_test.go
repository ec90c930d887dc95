package snap_test

import (
	"strings"

	"flagon/api"
)

// looker is another reader, which throws its first error.
type looker struct {
	b  []byte
	at int
}

type stop struct {
	e  api.Errno
	at int
}

// looked: what the document says of Read.
func looked(b []byte) (s api.State, e api.Errno, at int) {
	if len(b) > mostLong {
		return s, api.ErrLong, 0
	}
	if !strings.HasPrefix(string(b), head) {
		return s, api.ErrMagic, 0
	}
	defer func() {
		if x := recover(); x != nil {
			found := x.(stop)
			s, e, at = api.State{}, found.e, found.at
		}
	}()
	l := &looker{b, len(head)}
	s = l.state()
	l.must(l.at == len(b), api.ErrRest, l.at)
	return s, api.OK, 0
}

func (l *looker) must(holds bool, e api.Errno, at int) {
	if !holds {
		panic(stop{e, at})
	}
}

// octet and number also answer where they stand.
func (l *looker) octet() (int, int) {
	at := l.at
	l.must(at < len(l.b), api.ErrEnd, at)
	l.at++
	return int(l.b[at]), at
}

func (l *looker) number() (uint64, int) {
	from, v, unit := l.at, uint64(0), uint64(1)
	for n := 1; ; n++ {
		l.must(l.at < len(l.b), api.ErrEnd, from)
		c := l.b[l.at]
		l.must(n < 10 || c <= 1, api.ErrWide, from)
		l.must(n == 1 || c != 0, api.ErrLoose, from)
		v, unit = v+uint64(c%128)*unit, unit*128
		l.at++
		if c < 128 {
			return v, from
		}
	}
}

func (l *looker) count(most int) int {
	v, at := l.number()
	l.must(v <= uint64(most), api.ErrMany, at)
	return int(v)
}

func (l *looker) values(most int) []uint64 {
	var out []uint64
	for range l.count(most) {
		v, _ := l.number()
		out = append(out, v)
	}
	return out
}

func (l *looker) pages() [][]byte {
	pages := make([][]byte, l.count(most64))
	last := -1
	for range l.count(len(pages)) {
		v, at := l.number()
		l.must(v < uint64(len(pages)), api.ErrRange, at)
		l.must(int(v) > last, api.ErrOrder, at)
		last = int(v)
		l.must(l.at+size <= len(l.b), api.ErrEnd, l.at)
		pages[last] = append([]byte(nil), l.b[l.at:l.at+size]...)
		l.must(!isBlank(pages[last]), api.ErrLoose, l.at)
		l.at += size
	}
	for k, p := range pages {
		if p == nil {
			pages[k] = blank()
		}
	}
	return pages
}

func (l *looker) state() api.State {
	var s api.State
	end, at := l.octet()
	l.must(end == 1 || end == 2 || end == 3, api.ErrRange, at)
	trap, at := l.octet()
	l.must(trap < 7, api.ErrRange, at)
	used, at := l.number()
	l.must(used <= mostUsed, api.ErrRange, at)
	replies, at := l.number()
	l.must(replies <= mostReplies, api.ErrRange, at)
	s.End, s.Trap, s.Used, s.Replies = int8(end), int8(trap), int64(used), int(replies)
	s.Results = l.values(mostResults)
	s.Globals = l.values(most64)
	s.Pages = l.pages()
	for range l.count(most64) {
		function, at := l.number()
		l.must(function < functions, api.ErrRange, at)
		pc, at := l.number()
		l.must(pc < codes, api.ErrRange, at)
		locals := l.values(most64)
		s.Frames = append(s.Frames, api.Frame{Function: int(function), Pc: int(pc), Locals: locals, Stack: l.values(mostStack)})
	}
	return s
}

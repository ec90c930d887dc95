package snap_test

import (
	"bytes"
	"math/rand"
	"slices"

	"flagon/api"
)

// page is one with that byte at that place.
func page(at int, v byte) []byte {
	p := blank()
	p[at] = v
	return p
}

// some: so many values, at the ends of what numbers of one byte, of two, and of all others can hold.
func some(n int) []uint64 {
	ends := []uint64{wide, 0, 127, 128, 1<<14 - 1, 1 << 14, 1 << 32, 1<<63 - 1, 1 << 63, 5}
	var out []uint64
	for at := range n {
		out = append(out, ends[at%len(ends)])
	}
	return out
}

// rich has some of everything; it is no state of a module, for its form alone is asked here.
func rich() api.State {
	return api.State{
		End: 3, Trap: 4, Used: 300, Replies: 129,
		Results: []uint64{1, 1 << 40, wide},
		Globals: []uint64{0, 128},
		Pages:   [][]byte{blank(), page(0, 1), blank(), page(4095, 255), bytes.Repeat([]byte{9}, size), blank()},
		Frames: []api.Frame{
			{Function: 127, Pc: 2047, Locals: []uint64{7, 300}, Stack: []uint64{1 << 63}},
			{},
			{Function: 1, Pc: 200, Stack: []uint64{0, 0, 1 << 33}},
			{Function: 2, Pc: 3, Locals: []uint64{0}},
		},
	}
}

// greatest is the state of which most bytes are told.
func greatest() api.State {
	top := func(n int) []uint64 { return slices.Repeat([]uint64{wide}, n) }
	s := api.State{End: 3, Trap: 6, Used: mostUsed, Replies: mostReplies, Results: top(mostResults), Globals: top(most64)}
	for range most64 {
		s.Pages = append(s.Pages, bytes.Repeat([]byte{255}, size))
		s.Frames = append(s.Frames, api.Frame{Function: functions - 1, Pc: codes - 1, Locals: top(most64), Stack: top(mostStack)})
	}
	return s
}

// plain: the smallest states, and some that have one thing alone.
func plain() []api.State {
	out := []api.State{
		{End: 1}, {End: 2}, {End: 3}, {End: 1, Trap: 6}, {End: 1, Used: 1}, {End: 1, Used: mostUsed}, {End: 1, Replies: 1}, {End: 1, Replies: mostReplies},
		{End: 1, Pages: [][]byte{}, Frames: []api.Frame{}, Results: []uint64{}, Globals: []uint64{}},
		{End: 2, Results: some(mostResults)}, {End: 2, Globals: some(most64)},
		{End: 1, Pages: [][]byte{blank()}}, {End: 1, Pages: [][]byte{page(0, 1)}}, {End: 1, Pages: [][]byte{page(2048, 128)}},
		{End: 1, Frames: []api.Frame{{}}}, {End: 1, Frames: make([]api.Frame, most64)}, {End: 1, Frames: []api.Frame{{Locals: []uint64{}, Stack: []uint64{}}}},
		{End: 1, Frames: []api.Frame{{Locals: some(most64)}, {Stack: some(mostStack)}}},
	}
	for k := range most64 {
		pages := make([][]byte, most64)
		for at := range pages {
			pages[at] = blank()
		}
		pages[k] = page(k*65, byte(k+1))
		out = append(out, api.State{End: 1, Pages: pages})
	}
	return out
}

// drawnValues: at most so many, of every length.
func drawnValues(r *rand.Rand, most int) []uint64 {
	var out []uint64
	for range r.Intn(most + 1) {
		out = append(out, r.Uint64()>>r.Intn(64))
	}
	return out
}

func drawnPage(r *rand.Rand) []byte {
	p := blank()
	switch r.Intn(4) {
	case 0:
		p[[]int{0, size - 1, r.Intn(size)}[r.Intn(3)]] = byte(1 + r.Intn(255))
	case 1:
		r.Read(p)
	}
	return p
}

// drawn is a state that may be told, seldom one with much of a thing.
func drawn(r *rand.Rand) api.State {
	few := func(most int) int { return []int{0, 1, 3, 3, most}[r.Intn(5)] }
	s := api.State{End: int8(1 + r.Intn(3)), Trap: int8(r.Intn(7)), Used: r.Int63() >> (1 + r.Intn(62)), Replies: int(r.Int63() >> r.Intn(63))}
	s.Results, s.Globals = drawnValues(r, few(mostResults)), drawnValues(r, few(most64))
	for range r.Intn(few(8) + 1) {
		s.Pages = append(s.Pages, drawnPage(r))
	}
	for range r.Intn(few(most64) + 1) {
		f := api.Frame{Function: r.Intn(functions), Pc: r.Intn(codes), Locals: drawnValues(r, few(most64)), Stack: drawnValues(r, few(mostStack))}
		s.Frames = append(s.Frames, f)
	}
	return s
}

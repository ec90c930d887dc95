package snap_test

import (
	"bytes"
	"fmt"
	"slices"
	"testing"

	"flagon/api"
	"flagon/snap"
)

// The limits and numbers of the document, told once more here so that those of the program are tested, too.
const (
	head        = "FSNP\x01"
	size        = 4096
	mostLong    = 1 << 19
	mostUsed    = 1 << 62
	mostReplies = 1<<63 - 1
	mostResults = 8
	most64      = 64 // of globals, pages, frames and locals
	mostStack   = 256
	functions   = 128
	codes       = 2048
	wide        = 1<<64 - 1
)

// What a piece of the bytes is.
const (
	octet = iota
	number
	count
	body
)

// piece is one thing that has a place of its own in the bytes; of a number or an octet, the least and the greatest one that may stand there, of a count the greatest one.
type piece struct {
	name        string
	kind        int
	b           []byte
	least, most uint64
}

// uvar is a number's bytes, written by division, and not by package wire.
func uvar(v uint64) []byte {
	var out []byte
	for v >= 128 {
		out = append(out, byte(v%128+128))
		v /= 128
	}
	return append(out, byte(v))
}

func blank() []byte {
	return make([]byte, size)
}

func isBlank(p []byte) bool {
	return bytes.Count(p, []byte{0}) == len(p)
}

// pieces is s as the table 'The bytes' has it, whether it may be told or not: so also bytes that must be refused are made of it.
func pieces(s api.State) []piece {
	var out []piece
	put := func(kind int, b []byte, least, most uint64, name string, of ...any) {
		out = append(out, piece{fmt.Sprintf(name, of...), kind, b, least, most})
	}
	list := func(values []uint64, most uint64, name string) {
		put(count, uvar(uint64(len(values))), 0, most, "%s", name)
		for at, v := range values {
			put(number, uvar(v), 0, wide, "%s %d", name, at)
		}
	}
	put(octet, []byte{byte(s.End)}, 1, 3, "end")
	put(octet, []byte{byte(s.Trap)}, 0, 6, "trap")
	put(number, uvar(uint64(s.Used)), 0, mostUsed, "used")
	put(number, uvar(uint64(s.Replies)), 0, mostReplies, "replies")
	list(s.Results, mostResults, "results")
	list(s.Globals, most64, "globals")
	put(count, uvar(uint64(len(s.Pages))), 0, most64, "pages")
	at, least, full := len(out), uint64(0), 0
	for k, p := range s.Pages {
		if !isBlank(p) {
			put(number, uvar(uint64(k)), least, uint64(len(s.Pages))-1, "page %d", k)
			put(body, p, 0, 0, "page %d bytes", k)
			least, full = uint64(k)+1, full+1
		}
	}
	out = slices.Insert(out, at, piece{"full", count, uvar(uint64(full)), 0, uint64(len(s.Pages))})
	put(count, uvar(uint64(len(s.Frames))), 0, most64, "frames")
	for k, f := range s.Frames {
		put(number, uvar(uint64(f.Function)), 0, functions-1, "frame %d function", k)
		put(number, uvar(uint64(f.Pc)), 0, codes-1, "frame %d pc", k)
		list(f.Locals, most64, fmt.Sprintf("frame %d locals", k))
		list(f.Stack, mostStack, fmt.Sprintf("frame %d stack", k))
	}
	return out
}

// join is the bytes of the pieces, the five bytes ahead.
func join(ps []piece) []byte {
	b := []byte(head)
	for _, p := range ps {
		b = append(b, p.b...)
	}
	return b
}

func raw(s api.State) []byte {
	return join(pieces(s))
}

// starts: where each piece begins, and where the last one ends.
func starts(ps []piece) []int {
	at := len(head)
	var out []int
	for _, p := range ps {
		out = append(out, at)
		at += len(p.b)
	}
	return append(out, at)
}

// find is the number of the piece of that name.
func find(t *testing.T, ps []piece, name string) int {
	t.Helper()
	at := slices.IndexFunc(ps, func(p piece) bool { return p.name == name })
	if at < 0 {
		t.Fatalf("there is no piece %q", name)
	}
	return at
}

// with: the same pieces, but one has other bytes.
func with(ps []piece, at int, b []byte) []piece {
	out := slices.Clone(ps)
	out[at].b = b
	return out
}

func sameFrame(a, b api.Frame) bool {
	return a.Function == b.Function && a.Pc == b.Pc && slices.Equal(a.Locals, b.Locals) && slices.Equal(a.Stack, b.Stack)
}

// identical: are all fields alike, list by list? Said without the program.
func identical(a, b api.State) bool {
	return a.End == b.End && a.Trap == b.Trap && a.Used == b.Used && a.Replies == b.Replies && slices.Equal(a.Results, b.Results) &&
		slices.Equal(a.Globals, b.Globals) && slices.EqualFunc(a.Pages, b.Pages, bytes.Equal) && slices.EqualFunc(a.Frames, b.Frames, sameFrame)
}

// told is a state as a text; of its pages the numbers of those that are not all 0.
func told(s api.State) string {
	var full []int
	for k, p := range s.Pages {
		if !isBlank(p) {
			full = append(full, k)
		}
	}
	pages := len(s.Pages)
	s.Pages = nil
	return fmt.Sprintf("%.600s and %d pages, of which full %v", fmt.Sprintf("%+v", s), pages, full)
}

// writes: is s told as just those bytes, and are they read as it?
func writes(t *testing.T, s api.State) {
	t.Helper()
	want := raw(s)
	if b, e := snap.Write(s); e != api.OK || !bytes.Equal(b, want) {
		t.Fatalf("P22.1: Write of %s: %d, %.80x, not %.80x", told(s), e, b, want)
	}
	if got, e, at := snap.Read(want); e != api.OK || at != 0 || !identical(got, s) {
		t.Fatalf("P22.2: Read of %.80x: %d, %d, %s, not %s", want, e, at, told(got), told(s))
	}
}

// refuses: is s refused, and is nothing told beside that?
func refuses(t *testing.T, s api.State, name string, of ...any) {
	t.Helper()
	if b, e := snap.Write(s); e != api.ErrState || len(b) != 0 {
		t.Fatalf("P22.1: Write of a state with %s: %d, %.80x", fmt.Sprintf(name, of...), e, b)
	}
}

// fails: does Read of b answer that error and that place, and nothing beside them?
func fails(t *testing.T, b []byte, want api.Errno, place int, name string, of ...any) {
	t.Helper()
	if s, e, at := snap.Read(b); e != want || at != place || !identical(s, api.State{}) {
		t.Fatalf("P22.2: Read of %s: %d at %d, %s, not %d at %d", fmt.Sprintf(name, of...), e, at, told(s), want, place)
	}
}

// agrees: does Read answer what the other reader answers, and Write those bytes again? It tells whether they are a state's.
func agrees(t *testing.T, b []byte) bool {
	t.Helper()
	s, e, at := snap.Read(b)
	want, wantErrno, wantPlace := looked(b)
	if e != wantErrno || at != wantPlace || !identical(s, want) {
		t.Fatalf("P22.2: Read of %.120x: %d at %d, %s, not %d at %d, %s", b, e, at, told(s), wantErrno, wantPlace, told(want))
	}
	if e != api.OK {
		return false
	}
	if again, e := snap.Write(s); e != api.OK || !bytes.Equal(again, b) {
		t.Fatalf("W3: Read of %.120x, written again: %d, %.120x", b, e, again)
	}
	return true
}

package resume_test

import (
	"bytes"
	"fmt"
	"testing"

	"flagon/api"
	"flagon/frame"
	"flagon/resume"
	"flagon/snap"
	"flagon/validate"
)

// uvar is a number's bytes, written by division, and not by package wire.
func uvar(v uint64) []byte {
	var out []byte
	for v >= 128 {
		out = append(out, byte(v%128+128))
		v /= 128
	}
	return append(out, byte(v))
}

func isBlank(p []byte) bool {
	return bytes.Count(p, []byte{0}) == len(p)
}

// raw is s as chapter 22 has its bytes, whether it may be told or not: so also bytes that must be refused are made of it.
func raw(s api.State) []byte {
	b := append([]byte(head), byte(s.End), byte(s.Trap))
	number := func(v uint64) { b = append(b, uvar(v)...) }
	list := func(values []uint64) {
		number(uint64(len(values)))
		for _, v := range values {
			number(v)
		}
	}
	number(uint64(s.Used))
	number(uint64(s.Replies))
	list(s.Results)
	list(s.Globals)
	number(uint64(len(s.Pages)))
	var full []byte
	count := 0
	for k, p := range s.Pages {
		if !isBlank(p) {
			full = append(append(full, uvar(uint64(k))...), p...)
			count++
		}
	}
	number(uint64(count))
	b = append(b, full...)
	number(uint64(len(s.Frames)))
	for _, f := range s.Frames {
		number(uint64(f.Function))
		number(uint64(f.Pc))
		list(f.Locals)
		list(f.Stack)
	}
	return b
}

// refused: does Read answer that error and that place, and nothing beside them?
func refused(t *testing.T, m api.Module, b []byte, want api.Errno, place int, name string, of ...any) {
	t.Helper()
	if s, e, at := resume.Read(m, b); e != want || at != place || !identical(s, api.State{}) {
		t.Fatalf("P23.1: Read of %s: %d at %d, %s, not %d at %d", fmt.Sprintf(name, of...), e, at, told(s), want, place)
	}
}

// untold: does Write answer that error, and nothing beside it?
func untold(t *testing.T, m api.Module, s api.State, want api.Errno, name string, of ...any) {
	t.Helper()
	if b, e := resume.Write(m, s); e != want || len(b) != 0 {
		t.Fatalf("P23.2: Write of %s: %d, %.80x, not %d", fmt.Sprintf(name, of...), e, b, want)
	}
}

// both: is s written as its bytes, and are these read as it?
func both(t *testing.T, m api.Module, s api.State) {
	t.Helper()
	want := raw(s)
	if b, e := resume.Write(m, s); e != api.OK || !bytes.Equal(b, want) {
		t.Fatalf("P23.2: Write of %s: %d, %.80x, not %.80x", told(s), e, b, want)
	}
	if got, e, at := resume.Read(m, want); e != api.OK || at != 0 || !identical(got, s) {
		t.Fatalf("P23.1: Read of %.80x: %d, %d, %s, not %s", want, e, at, told(got), told(s))
	}
}

// meant: what the document says of Read, by the layers below.
func meant(m api.Module, b []byte) (api.State, api.Errno, int) {
	if _, e, _, _ := validate.Module(m); e != api.OK {
		return api.State{}, e, 0
	}
	s, e, at := snap.Read(b)
	if e != api.OK {
		return api.State{}, e, at
	}
	if e, place := frame.Check(m, s); e != api.OK {
		return api.State{}, api.ErrState, place
	}
	return s, api.OK, 0
}

// agrees: does Read answer what is meant, and is what it answers written as those bytes again? It tells the error.
func agrees(t *testing.T, m api.Module, b []byte) (api.State, api.Errno) {
	t.Helper()
	s, e, at := resume.Read(m, b)
	want, wantErrno, wantPlace := meant(m, b)
	if e != wantErrno || at != wantPlace || !identical(s, want) {
		t.Fatalf("P23.1: Read of %.120x: %d at %d, %s, not %d at %d, %s", b, e, at, told(s), wantErrno, wantPlace, told(want))
	}
	if e == api.OK {
		if again, e := resume.Write(m, s); e != api.OK || !bytes.Equal(again, b) {
			t.Fatalf("W3: what is read of %.120x is written as %d, %.120x", b, e, again)
		}
	}
	return s, e
}

// judged: does Write of s, a state as it is handed in, answer what the document says? It tells whether s may be.
func judged(t *testing.T, m api.Module, s api.State) bool {
	t.Helper()
	b, e := resume.Write(m, s)
	want, _ := frame.Check(m, s)
	if e != want || want != api.OK && len(b) != 0 || want == api.OK && !bytes.Equal(b, raw(s)) {
		t.Fatalf("P23.2: Write of %s: %d, %.120x, not %d", told(s), e, b, want)
	}
	return e == api.OK
}

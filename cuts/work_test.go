package cuts_test

import (
	"testing"

	"flagon/api"
	"flagon/cuts"
	"flagon/fast"
	"flagon/resume"
	"flagon/slow"
)

// pieces: how many pieces of memory a call takes. By what it answers nobody can tell which engine ran, and whether the state was written and read between: by this one can.
func pieces(call func()) float64 {
	return testing.AllocsPerRun(5, call)
}

// more: how many pieces Run takes more along that plan than along the other one.
func more(m api.Module, s api.State, along, other string) float64 {
	long, short := plan(along), plan(other)
	return pieces(func() { cuts.Run(m, nil, s, long) }) - pieces(func() { cuts.Run(m, nil, s, short) })
}

// near: is it that number, but for a few?
func near(t *testing.T, got, want float64, name string) {
	t.Helper()
	if got < want-8 || got > want+8 {
		t.Errorf("P24.1: %s: %g pieces of memory, not about %g", name, got, want)
	}
}

// TestWork: each slice is run on its engine; and is written and read again, if it says so and the run is suspended.
func TestWork(t *testing.T) {
	m := paged(2, 2, ">w", "", "nop*600 w.const:5 end")
	for range 3 {
		put(&m, ">", "", "nop*600 end")
	}
	s := begun(m)
	one, other := pieces(func() { slow.Run(m, nil, s, 9) }), pieces(func() { fast.Run(m, nil, s, 9) })
	mid, _ := slow.Run(m, nil, s, 9)
	b, _ := resume.Write(m, mid)
	saved := pieces(func() { resume.Write(m, mid) }) + pieces(func() { resume.Read(m, b) })
	if other < one+100 || saved < 100 {
		t.Fatalf("the pieces are too few: %g, %g, %g", one, other, saved)
	}
	near(t, more(m, s, "9s", ""), one, "a slice of the one engine")
	near(t, more(m, s, "9f", ""), other, "a slice of the other engine")
	near(t, more(m, s, "9s 9f", "9f"), one, "one more of the one engine")
	near(t, more(m, s, "9s 9f", "9s"), other, "one more of the other engine")
	near(t, more(m, s, "9s! 9s", "9s 9s"), saved, "saved between")
	near(t, more(m, s, "9f! 9f!", "9f 9f"), 2*saved, "saved between, and behind the last one")
	near(t, more(m, s, "9s 9000f!", "9s 9000f"), 0, "saved behind the end")
	near(t, more(m, s, "9000s 9f! 9s!", "9000s"), 0, "slices behind the end")
}

package shape_test

import (
	"math"
	"math/rand"
	"strings"
	"testing"

	"flagon/api"
	"flagon/shape"
)

// brief tells a text by its ends, for the long ones are alike in between.
func brief(s string) string {
	if len(s) <= 24 {
		return s
	}
	return s[:9] + ".." + s[len(s)-9:]
}

// holdTwo holds what takes two texts against the document.
func holdTwo(t *testing.T, s, other string) {
	t.Helper()
	if got, want := shape.Top(s, other), wantTop(s, other); got != want {
		t.Errorf("P8.1: Top(%q, %q) of %d and %d bytes: %v", brief(s), brief(other), len(s), len(other), got)
	}
	got, e := shape.Push(s, other)
	if want, we := wantPush(s, other); got != want || e != we {
		t.Errorf("P8.1: Push(%q, %q) of %d and %d bytes: %q, %d, not %q, %d", brief(s), brief(other), len(s), len(other), brief(got), e, brief(want), we)
	}
	got, e = shape.Pop(s, other)
	if want, we := wantPop(s, other); got != want || e != we {
		t.Errorf("P8.1: Pop(%q, %q) of %d and %d bytes: %q, %d, not %q, %d", brief(s), brief(other), len(s), len(other), brief(got), e, brief(want), we)
	}
}

// holdKeep holds Keep against the document.
func holdKeep(t *testing.T, s string, floor int, top string) {
	t.Helper()
	got, e := shape.Keep(s, floor, top)
	if want, we := wantKeep(s, floor, top); got != want || e != we {
		t.Errorf("P8.2: Keep(%q, %d, %q) of %d and %d bytes: %q, %d, not %q, %d", brief(s), floor, brief(top), len(s), len(top), brief(got), e, brief(want), we)
	}
}

func TestExamples(t *testing.T) {
	if !shape.Top("wlw", "lw") || shape.Top("wlw", "l") || shape.Top("w", "wl") {
		t.Error("P8.1: Top")
	}
	full := strings.Repeat("w", 256)
	push := []struct {
		s, more, want string
		e             api.Errno
	}{{"w", "lw", "wlw", api.OK}, {"w", "x", "", api.ErrType}, {full, "w", "", api.ErrHigh}, {full, "", full, api.OK}, {"", full, full, api.OK}}
	for _, x := range push {
		if got, e := shape.Push(x.s, x.more); got != x.want || e != x.e {
			t.Errorf("P8.1: Push(%q, %q): %q, %d", brief(x.s), x.more, brief(got), e)
		}
	}
	pop := []struct {
		s, want, left string
		e             api.Errno
	}{{"wlw", "w", "wl", api.OK}, {"wlw", "l", "", api.ErrStack}, {"w", "wl", "", api.ErrStack}, {"wlw", "wlw", "", api.OK}, {"", "", "", api.OK}, {"", "w", "", api.ErrStack}, {"lww", "www", "", api.ErrStack}}
	for _, x := range pop {
		if got, e := shape.Pop(x.s, x.want); got != x.left || e != x.e {
			t.Errorf("P8.1: Pop(%q, %q): %q, %d", x.s, x.want, got, e)
		}
	}
	keep := []struct {
		s     string
		floor int
		top   string
		want  string
		e     api.Errno
	}{
		{"wlww", 1, "w", "ww", api.OK}, {"wlww", 3, "w", "wlww", api.OK}, {"wlww", 4, "w", "", api.ErrStack}, {"wl", -1, "l", "", api.ErrStack},
		{"wl", 0, "l", "l", api.OK}, {"wl", 0, "wl", "wl", api.OK}, {"wl", 1, "wl", "", api.ErrStack}, {"wl", 2, "", "wl", api.OK}, {"wl", 3, "", "", api.ErrStack}, {"wl", 1, "", "w", api.OK}, {"wl", 0, "", "", api.OK},
		{"", 0, "", "", api.OK}, {"", 1, "", "", api.ErrStack}, {"wl", 0, "w", "", api.ErrStack}, {"l", 0, "wl", "", api.ErrStack},
		{"wl", math.MinInt, "l", "", api.ErrStack}, {"wl", math.MaxInt, "l", "", api.ErrStack},
	}
	for _, x := range keep {
		if got, e := shape.Keep(x.s, x.floor, x.top); got != x.want || e != x.e {
			t.Errorf("P8.2: Keep(%q, %d, %q): %q, %d", x.s, x.floor, x.top, got, e)
		}
	}
}

// TestSmall goes through all shapes of few letters, one beside the other.
func TestSmall(t *testing.T) {
	all := shapes(5)
	for _, s := range all {
		for _, other := range all {
			holdTwo(t, s, other)
			for floor := -2; floor <= 8; floor++ {
				holdKeep(t, s, floor, other)
			}
		}
	}
}

// TestEdges: 255, 256 and 257 letters together, all of s, none of it, and floors from one end of int to the other.
func TestEdges(t *testing.T) {
	all := edges()
	for _, s := range all {
		for _, other := range all {
			holdTwo(t, s, other)
			for _, floor := range floors(s, other) {
				holdKeep(t, s, floor, other)
			}
		}
	}
	for n := 0; n <= 256; n++ {
		for _, together := range []int{255, 256, 257} {
			if together >= n && together-n <= 256 {
				holdTwo(t, strings.Repeat("w", n), strings.Repeat("l", together-n))
			}
		}
	}
}

// TestFirstLetter: a want that differs from the top of s at its first letter alone, and one that is longer than s by a letter.
func TestFirstLetter(t *testing.T) {
	for _, n := range []int{1, 2, 8, 255, 256} {
		s := strings.Repeat("wl", n)[:n]
		for from := range n {
			top := s[from:]
			other := "w" + top[1:]
			if top[0] == 'w' {
				other = "l" + top[1:]
			}
			holdTwo(t, s, top)
			holdTwo(t, s, other)
			holdKeep(t, s, 0, other)
			if got, e := shape.Pop(s, other); got != "" || e != api.ErrStack {
				t.Errorf("P8.1: Pop(%q, %q): %q, %d", brief(s), brief(other), brief(got), e)
			}
		}
		if n < 256 {
			holdTwo(t, s, "w"+s)
			holdTwo(t, s, "l"+s)
			holdKeep(t, s, 0, "w"+s)
		}
	}
}

// TestNoShapes: what is no shape, in s, in the other one and in both, is told ahead of all else.
func TestNoShapes(t *testing.T) {
	bad := noShapes()
	good := []string{"", "w", "l", "wl", strings.Repeat("w", 255), strings.Repeat("w", 256), strings.Repeat("l", 256)}
	refused := func(s, other string) {
		t.Helper()
		if shape.Top(s, other) {
			t.Errorf("P8.1: Top(%q, %q): true", brief(s), brief(other))
		}
		if got, e := shape.Push(s, other); got != "" || e != api.ErrType {
			t.Errorf("P8.1: Push(%q, %q): %q, %d", brief(s), brief(other), brief(got), e)
		}
		if got, e := shape.Pop(s, other); got != "" || e != api.ErrType {
			t.Errorf("P8.1: Pop(%q, %q): %q, %d", brief(s), brief(other), brief(got), e)
		}
		for _, floor := range []int{math.MinInt, -1, 0, 1, len(s), 256, 257, math.MaxInt} {
			if got, e := shape.Keep(s, floor, other); got != "" || e != api.ErrType {
				t.Errorf("P8.2: Keep(%q, %d, %q): %q, %d", brief(s), floor, brief(other), brief(got), e)
			}
		}
	}
	for _, x := range bad {
		for _, s := range good {
			refused(s, x)
			refused(x, s)
		}
		for _, y := range bad {
			refused(x, y)
		}
		refused(x, x[len(x)-1:])
	}
}

func TestDrawn(t *testing.T) {
	r := rand.New(rand.NewSource(8))
	for range 20000 {
		s, other := drawn(r, 256), drawn(r, 256)
		if r.Intn(2) == 0 {
			other = s[r.Intn(len(s)+1):]
		}
		holdTwo(t, s, other)
		holdKeep(t, s, r.Intn(300)-20, other)
	}
}

package shape_test

import (
	"math"
	"math/rand"
	"slices"
	"strings"

	"flagon/api"
)

// What the document says, letter by letter, without a call of the program.

const most = 256

// isShape: are there letters alone, at most 256 of them?
func isShape(s string) bool {
	for i := 0; i < len(s); i++ {
		if s[i] != 'w' && s[i] != 'l' {
			return false
		}
	}
	return len(s) <= most
}

// endsWith compares from the top down, so that a want that is longer than s runs into its bottom.
func endsWith(s, want string) bool {
	for i := 1; i <= len(want); i++ {
		if i > len(s) || s[len(s)-i] != want[len(want)-i] {
			return false
		}
	}
	return true
}

func wantTop(s, want string) bool {
	return isShape(s) && isShape(want) && endsWith(s, want)
}

func wantPush(s, more string) (string, api.Errno) {
	switch {
	case !isShape(s), !isShape(more):
		return "", api.ErrType
	case len(s)+len(more) > most:
		return "", api.ErrHigh
	}
	return string(append([]byte(s), more...)), api.OK
}

func wantPop(s, want string) (string, api.Errno) {
	switch {
	case !isShape(s), !isShape(want):
		return "", api.ErrType
	case !endsWith(s, want):
		return "", api.ErrStack
	}
	return string([]byte(s)[:len(s)-len(want)]), api.OK
}

func wantKeep(s string, floor int, top string) (string, api.Errno) {
	switch {
	case !isShape(s), !isShape(top):
		return "", api.ErrType
	case floor < 0, !endsWith(s, top), floor > len(s)-len(top):
		return "", api.ErrStack
	}
	out := make([]byte, 0, floor+len(top))
	for i := range floor {
		out = append(out, s[i])
	}
	return string(append(out, top...)), api.OK
}

// shapes is every text of w and l up to that length.
func shapes(longest int) []string {
	out := []string{""}
	last := out
	for range longest {
		var next []string
		for _, s := range last {
			next = append(next, s+"w", s+"l")
		}
		out = append(out, next...)
		last = next
	}
	return out
}

// noShapes is texts of which none is a shape: bytes that are no letters at each place, and one letter too many.
func noShapes() []string {
	out := []string{strings.Repeat("w", 257), strings.Repeat("wl", 256), strings.Repeat("l", 1000)}
	for _, s := range []string{"x", "-", " ", "\x00", "W", "L", "\xff", "\u0177", "\u016c", "\xe2\x82", "0"} {
		out = append(out, s, "w"+s, s+"w", "wl"+s+"lw", strings.Repeat("l", 255)+s, s+strings.Repeat("l", 255))
	}
	return out
}

// edges is shapes at the heights that the document names.
func edges() []string {
	var out []string
	for _, n := range []int{0, 1, 2, 3, 127, 128, 129, 254, 255, 256} {
		out = append(out, strings.Repeat("w", n), strings.Repeat("l", n), strings.Repeat("wl", n)[:n])
	}
	return out
}

// floors is heights around what stands in s and in top, and far off.
func floors(s, top string) []int {
	out := []int{math.MinInt, math.MinInt + 1, -1 << 32, -257, -256, -2, -1, 0, 1, 2, 255, 256, 257, 1 << 31, 1 << 32, math.MaxInt - 1, math.MaxInt}
	for d := -2; d <= 2; d++ {
		out = append(out, d+len(s), d+len(top), d+len(s)-len(top), d+len(s)+len(top), d+math.MaxInt-len(top)-2)
	}
	slices.Sort(out)
	return slices.Compact(out)
}

// drawn is a shape of any height up to that one.
func drawn(r *rand.Rand, highest int) string {
	b := make([]byte, r.Intn(highest+1))
	for i := range b {
		b[i] = "wl"[r.Intn(2)]
	}
	return string(b)
}

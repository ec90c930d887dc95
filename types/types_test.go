package types_test

import (
	"math"
	"slices"
	"strings"
	"testing"

	"flagon/api"
	"flagon/types"
)

// shapes is every text of w and l up to that length.
func shapes(most int) []string {
	out := []string{""}
	last := out
	for range most {
		var next []string
		for _, s := range last {
			next = append(next, s+"w", s+"l")
		}
		out = append(out, next...)
		last = next
	}
	return out
}

// notLetters is texts that hold a byte which is no letter; of some the character's number ends like that of a letter.
func notLetters() []string {
	out := []string{"\x00", "-", " ", "W", "L", "x", "\x80", "\xff", "\u0177", "\u016c", "\uff77", "\U00010077", "\u00e9", "\ufffd", "\xe2\x82"}
	for _, s := range slices.Clone(out) {
		out = append(out, "w"+s, s+"l", "wl"+s+"wl", strings.Repeat("w", 255)+s)
	}
	return out
}

// values is numbers at the edges of both letters.
func values() []uint64 {
	return []uint64{0, 1, 1<<31 - 1, 1 << 31, 1<<32 - 1, 1 << 32, 1<<32 + 1, 1 << 63, math.MaxUint64}
}

func TestLetter(t *testing.T) {
	for c := range 256 {
		if got, want := types.Letter(byte(c)), c == 'w' || c == 'l'; got != want {
			t.Errorf("P2.1: Letter(%d): %v", c, got)
		}
	}
}

func TestShape(t *testing.T) {
	for _, s := range shapes(6) {
		if !types.Shape(s) {
			t.Errorf("P2.1: Shape(%q): false", s)
		}
	}
	for n := range 300 {
		for _, s := range []string{strings.Repeat("w", n), strings.Repeat("l", n), strings.Repeat("wl", n)[:n]} {
			if types.Shape(s) != (n <= api.MaxStack) {
				t.Errorf("P2.1: Shape of %d letters: %v", n, !(n <= api.MaxStack))
			}
		}
	}
	for _, s := range notLetters() {
		if types.Shape(s) {
			t.Errorf("P2.1: Shape(%q): true", s)
		}
	}
	for c := range 256 {
		s := "w" + string([]byte{byte(c)}) + "l"
		if types.Shape(s) != (c == 'w' || c == 'l') {
			t.Errorf("P2.1: Shape(%q)", s)
		}
	}
}

func TestSig(t *testing.T) {
	for p := range 12 {
		for r := range 12 {
			x := api.Sig{Params: strings.Repeat("wl", p)[:p], Results: strings.Repeat("lw", r)[:r]}
			if types.Sig(x) != (p <= api.MaxArity && r <= api.MaxArity) {
				t.Errorf("P2.1: Sig of %d and %d letters: %v", p, r, types.Sig(x))
			}
		}
	}
	for _, s := range notLetters() {
		for _, x := range []api.Sig{{Params: s}, {Results: s}, {Params: s, Results: s}, {Params: s, Results: "w"}, {Params: "w", Results: s}} {
			if types.Sig(x) {
				t.Errorf("P2.1: Sig(%q): true", x)
			}
		}
	}
}

func TestFits(t *testing.T) {
	for _, v := range values() {
		for c := range 256 {
			want := c == 'l' || c == 'w' && v <= math.MaxUint32
			if got := types.Fits(v, byte(c)); got != want {
				t.Errorf("P2.2: Fits(%d, %d): %v", v, c, got)
			}
		}
	}
}

func TestAll(t *testing.T) {
	for _, x := range []struct {
		values []uint64
		shape  string
		want   bool
	}{
		{nil, "", true},
		{[]uint64{}, "", true},
		{[]uint64{1, 2}, "wl", true},
		{[]uint64{1}, "wl", false},
		{[]uint64{1, 2, 3}, "wl", false},
		{nil, "w", false},
		{[]uint64{0}, "", false},
		{[]uint64{1<<32 - 1}, "w", true},
		{[]uint64{1 << 32}, "w", false},
		{[]uint64{1 << 32}, "l", true},
		{[]uint64{1 << 32, 0}, "wl", false},
		{[]uint64{0, 1 << 32}, "wl", true},
		{[]uint64{0, 1 << 32}, "lw", false},
		{[]uint64{0, 0, 1 << 32}, "wlw", false},
		{[]uint64{0}, "x", false},
		{nil, "x", false},
		{[]uint64{0, 0}, "w?", false},
		{[]uint64{0, 0}, "?w", false},
		{[]uint64{0, 0}, "\u0177", false},
		{[]uint64{0}, "\u0177", false},
		{[]uint64{0}, "\xff", false},
		{make([]uint64, 256), strings.Repeat("w", 256), true},
		{make([]uint64, 257), strings.Repeat("w", 257), true},
		{make([]uint64, 256), strings.Repeat("w", 257), false},
	} {
		if got := types.All(x.values, x.shape); got != x.want {
			t.Errorf("P2.2: All of %d values %.3v and %.9q: %v", len(x.values), x.values, x.shape, got)
		}
	}
}

func TestAllAsksEachPlace(t *testing.T) {
	for _, s := range shapes(5) {
		for at := range len(s) {
			for _, v := range values() {
				l := make([]uint64, len(s))
				l[at] = v
				if got, want := types.All(l, s), types.Fits(v, s[at]); got != want {
					t.Errorf("P2.2: All of %v and %q: %v", l, s, got)
				}
			}
		}
	}
}

func TestZero(t *testing.T) {
	for _, s := range append(shapes(6), strings.Repeat("w", 256), strings.Repeat("l", 257), strings.Repeat("wl", 1000)) {
		l := types.Zero(s)
		if len(l) != len(s) {
			t.Errorf("P2.2: Zero of %d letters: %d values", len(s), len(l))
		}
		for _, v := range l {
			if v != 0 {
				t.Errorf("P2.2: Zero(%.9q): %.9v", s, l)
			}
		}
		if !types.All(l, s) {
			t.Errorf("what follows: All of Zero(%.9q): false", s)
		}
	}
	for _, s := range append(notLetters(), "w?", "?") {
		if l := types.Zero(s); len(l) != 0 {
			t.Errorf("P2.2: Zero(%.9q): %d values", s, len(l))
		}
	}
}

func TestZeroIsNewMemory(t *testing.T) {
	l := types.Zero("wl")
	l = l[:cap(l)]
	for i := range l {
		l[i] = 7
	}
	if l := types.Zero("wl"); !slices.Equal(l[:cap(l)], make([]uint64, cap(l))) {
		t.Errorf("R5: Zero after its first answer was changed: %v", l[:cap(l)])
	}
}

func TestWord(t *testing.T) {
	for _, x := range []struct {
		sig  api.Sig
		want string
		e    api.Errno
	}{
		{api.Sig{Params: "wl", Results: "w"}, "wl -> w", api.OK},
		{api.Sig{}, "- -> -", api.OK},
		{api.Sig{Results: "l"}, "- -> l", api.OK},
		{api.Sig{Params: "l"}, "l -> -", api.OK},
		{api.Sig{Params: "wwwwwwww", Results: "llllllll"}, "wwwwwwww -> llllllll", api.OK},
		{api.Sig{Params: "wwwwwwwww"}, "", api.ErrType},
		{api.Sig{Results: "lllllllll"}, "", api.ErrType},
		{api.Sig{Params: "x"}, "", api.ErrType},
		{api.Sig{Params: "w", Results: "x"}, "", api.ErrType},
		{api.Sig{Params: "-"}, "", api.ErrType},
		{api.Sig{Results: "-"}, "", api.ErrType},
		{api.Sig{Params: "w -> l"}, "", api.ErrType},
		{api.Sig{Params: " "}, "", api.ErrType},
		{api.Sig{Results: "\u0177"}, "", api.ErrType},
	} {
		if s, e := types.Word(x.sig); s != x.want || e != x.e {
			t.Errorf("P2.3: Word(%q): %q, %d", x.sig, s, e)
		}
	}
}

func TestReadSig(t *testing.T) {
	for s, want := range map[string]api.Sig{
		"wl -> w":              {Params: "wl", Results: "w"},
		"- -> -":               {},
		"- -> l":               {Results: "l"},
		"l -> -":               {Params: "l"},
		"wwwwwwww -> llllllll": {Params: "wwwwwwww", Results: "llllllll"},
	} {
		if x, e := types.ReadSig(s); x != want || e != api.OK {
			t.Errorf("P2.3: ReadSig(%q): %q, %d", s, x, e)
		}
	}
}

func TestReadSigOfNone(t *testing.T) {
	for _, s := range []string{
		"", "-", "w", " ", "->", " -> ", " ->", "-> ", "w->l", "w ->l", "w-> l", "w  -> l", "w ->  l", "w\t->\tl", "w -> ", " -> w", "w ->", "-> w",
		"w -> l -> w", "- -> - -> -", " -> w -> l", "-- -> w", "w -> --", "-w -> l", "w -> l-", "- w -> l", " w -> l", "w -> l ", "w -> l\n", "\nw -> l",
		"wwwwwwwww -> -", "- -> lllllllll", "W -> l", "w -> x", "x -> w", "w => l", "w - > l", "\u0177 -> w", "w -> \u016c", "w\xff -> l", "w -> \x00", "w \u2192 l",
	} {
		if x, e := types.ReadSig(s); x != (api.Sig{}) || e != api.ErrType {
			t.Errorf("P2.3: ReadSig(%q): %q, %d", s, x, e)
		}
	}
}

func TestSignaturesThereAndBack(t *testing.T) {
	for _, p := range append(shapes(4), "wlwlwlwl", "llllllll") {
		for _, r := range append(shapes(4), "wwwwwwww", "lwlwlwlw") {
			x := api.Sig{Params: p, Results: r}
			s, e := types.Word(x)
			if y, f := types.ReadSig(s); y != x || e != api.OK || f != api.OK {
				t.Errorf("what follows: %q: %q, read as %q, %d", x, s, y, f)
			}
		}
	}
}

// TestTextsThereAndBack reads every text of up to 8 of the bytes that texts of signatures are made of.
func TestTextsThereAndBack(t *testing.T) {
	read := 0
	var ask func(s string, more int)
	ask = func(s string, more int) {
		if x, e := types.ReadSig(s); e == api.OK {
			read++
			if back, f := types.Word(x); back != s || f != api.OK {
				t.Errorf("what follows: %q is read as %q, told as %q, %d", s, x, back, f)
			}
		} else if e != api.ErrType || x != (api.Sig{}) {
			t.Errorf("P2.3: ReadSig(%q): %q, %d", s, x, e)
		}
		if more == 0 {
			return
		}
		for _, c := range []string{"w", "l", "-", ">", " "} {
			ask(s+c, more-1)
		}
	}
	ask("", 8)
	// Of 4 letters in all: both sides of 1 to 3 letters, one empty side and up to 3 letters, both empty.
	if want := 4 + 2*8 + 3*16 + 2*(2+4+8) + 1; read != want {
		t.Errorf("P2.3: %d texts of up to 8 bytes are signatures', not %d", read, want)
	}
}

func TestShapesBehindOneAnother(t *testing.T) {
	lists := [][]uint64{nil, {0}, {1<<32 - 1}, {1 << 32}, {1 << 32, 0}, {0, 1 << 32}, {0, 0}, {1, 1 << 32, 2}}
	for _, s := range append(shapes(3), "x", "w?") {
		for _, r := range append(shapes(3), "x", "?w") {
			for _, a := range lists {
				for _, b := range lists {
					if len(a) != len(s) || len(b) != len(r) {
						continue // other lengths of the parts may add up to that of the whole
					}
					if got, want := types.All(slices.Concat(a, b), s+r), types.All(a, s) && types.All(b, r); got != want {
						t.Errorf("what follows: %v, %v of %q, %q: %v", a, b, s, r, got)
					}
				}
			}
		}
	}
}

func TestArgumentsStay(t *testing.T) {
	whole := []uint64{1, 2, 3}
	if types.All(whole[:1], "wl") || !types.All(whole[:2], "wl") {
		t.Error("R5: All looks into the spare room")
	}
	if !slices.Equal(whole, []uint64{1, 2, 3}) {
		t.Errorf("R5: the argument became %v", whole)
	}
}

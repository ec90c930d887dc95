package host_test

import (
	"math"
	"slices"
	"strings"
	"testing"

	"flagon/api"
	"flagon/host"
)

// answer is what a Call is to answer.
type answer struct {
	results string
	l       []uint64
	ok      bool
}

// asked: are these the answers, one by one?
func asked(t *testing.T, h *host.Host, list ...answer) {
	t.Helper()
	for at, x := range list {
		if l, ok := h.Call(x.results); ok != x.ok || !slices.Equal(l, x.l) {
			t.Errorf("P15.2: the call %d, of %q: %v, %v, not %v, %v", at, x.results, l, ok, x.l, x.ok)
		}
	}
}

// stands: are so many taken, and so many left?
func stands(t *testing.T, h *host.Host, taken, left int) {
	t.Helper()
	if h.Taken() != taken || h.Left() != left {
		t.Errorf("P15.3: Taken %d, Left %d, not %d, %d", h.Taken(), h.Left(), taken, left)
	}
}

// one is a script of one reply.
func one(results ...uint64) []api.Reply {
	return []api.Reply{{Results: results}}
}

// TestExamples: the chapter's table, row by row.
func TestExamples(t *testing.T) {
	h := host.New([]api.Reply{{Results: []uint64{5}}, {Results: []uint64{7, 8}}, {Trap: true}}, 0)
	asked(t, h, answer{"w", []uint64{5}, true}, answer{"lw", []uint64{7, 8}, true}, answer{"", nil, false}, answer{"w", nil, false})
	stands(t, h, 3, 0)

	h = host.New(one(5), 0)
	asked(t, h, answer{"", nil, false})
	stands(t, h, 1, 0)

	asked(t, host.New(one(high), 0), answer{"w", nil, false})
	asked(t, host.New(one(high), 0), answer{"l", []uint64{high}, true})

	h = host.New(one(5), 9)
	stands(t, h, 9, 0)
	asked(t, h, answer{"w", nil, false})
	stands(t, h, 9, 0)
}

// TestNew: how many are taken and left at the beginning.
func TestNew(t *testing.T) {
	for _, x := range []struct{ replies, taken, told, left int }{
		{3, math.MinInt, 0, 3}, {3, -4, 0, 3}, {3, -3, 0, 3}, {3, -1, 0, 3}, {3, 0, 0, 3}, {3, 1, 1, 2}, {3, 2, 2, 1}, {3, 3, 3, 0},
		{3, 4, 4, 0}, {3, 1000, 1000, 0}, {3, high, high, 0}, {3, high + 1, high + 1, 0}, {3, math.MaxInt, math.MaxInt, 0},
		{0, math.MinInt, 0, 0}, {0, -1, 0, 0}, {0, 0, 0, 0}, {0, 1, 1, 0}, {0, math.MaxInt, math.MaxInt, 0},
	} {
		stands(t, host.New(replies(x.replies), x.taken), x.told, x.left)
	}
}

// TestNewGoesOn: the first reply that a host tells is the one behind those that are taken, and then the others, up to the last.
func TestNewGoesOn(t *testing.T) {
	for n := range 6 {
		for _, taken := range takens(n) {
			h := host.New(replies(n), taken)
			for k := max(taken, 0); k < n; k++ {
				asked(t, h, answer{"w", []uint64{uint64(k)}, true})
			}
			asked(t, h, answer{"w", nil, false}, answer{"w", nil, false})
			stands(t, h, max(taken, n), 0)
		}
	}
}

// TestNoScript: nil and empty are the same: there is never a reply.
func TestNoScript(t *testing.T) {
	for _, script := range [][]api.Reply{nil, {}, make([]api.Reply, 0, 3), replies(2)[:0]} {
		for _, taken := range takens(0) {
			h, o := both(t, script, taken)
			for _, results := range []string{"", "w", "l", "x"} {
				calls(t, h, o, results)
			}
			stands(t, h, max(taken, 0), 0)
		}
	}
}

// TestNoneLeft: behind the last reply each call is refused, and Taken stays, at the greatest number, too.
func TestNoneLeft(t *testing.T) {
	for n := range 4 {
		for _, taken := range takens(n) {
			h := host.New(replies(n), taken)
			for h.Left() > 0 {
				h.Call("w")
			}
			before := h.Taken()
			for _, results := range []string{"", "w", "l", "ww", "x", strings.Repeat("w", 9)} {
				asked(t, h, answer{results, nil, false}, answer{results, nil, false})
				stands(t, h, before, 0)
			}
		}
	}
}

// TestTrap: a reply that traps is refused, though its results may be those that are asked for.
func TestTrap(t *testing.T) {
	for _, reply := range []api.Reply{{Trap: true}, {Trap: true, Results: []uint64{}}, {Trap: true, Results: []uint64{5}}, {Trap: true, Results: []uint64{5, 6}}} {
		for _, results := range []string{"", "w", "l", "ww", "lw", "x"} {
			h := host.New([]api.Reply{reply, {Results: []uint64{7}}}, 0)
			asked(t, h, answer{results, nil, false})
			stands(t, h, 1, 1)
			asked(t, h, answer{"w", []uint64{7}, true})
			stands(t, h, 2, 0)
		}
	}
}

// TestNumber: a reply of each number of results, asked for each number of letters; there is no bound to either.
func TestNumber(t *testing.T) {
	for n := range 20 {
		for letters := range 20 {
			for _, letter := range []string{"w", "l"} {
				h, o := both(t, append(one(make([]uint64, n)...), one(3)...), 0)
				calls(t, h, o, strings.Repeat(letter, letters))
				asked(t, h, answer{letter, []uint64{3}, true})
			}
		}
	}
	for _, n := range []int{255, 256, 257, 1000, 70000} {
		for letters := n - 1; letters <= n+1; letters++ {
			h, o := both(t, one(make([]uint64, n)...), 0)
			calls(t, h, o, strings.Repeat("w", letters))
		}
	}
}

// TestNoResults: a reply without results is one: it is told as none and true.
func TestNoResults(t *testing.T) {
	for _, reply := range []api.Reply{{}, {Results: []uint64{}}, {Results: make([]uint64, 0, 3)}} {
		h := host.New([]api.Reply{reply, reply}, 0)
		asked(t, h, answer{"", nil, true})
		stands(t, h, 1, 1)
		asked(t, h, answer{"w", nil, false})
		stands(t, h, 2, 0)
		asked(t, h, answer{"", nil, false})
	}
}

// TestLetter: each byte as a letter, of each value.
func TestLetter(t *testing.T) {
	for c := range 256 {
		for _, v := range values() {
			letter := string([]byte{byte(c)})
			want := answer{letter, nil, false}
			if c == 'l' || c == 'w' && v <= math.MaxUint32 {
				want = answer{letter, []uint64{v}, true}
			}
			asked(t, host.New(one(v), 0), want)
		}
	}
}

// TestHighBits: each of the 32 high bits of a w.
func TestHighBits(t *testing.T) {
	for bit := range 64 {
		v := uint64(1) << bit
		want := answer{"w", []uint64{v}, true}
		if bit >= 32 {
			want = answer{"w", nil, false}
		}
		asked(t, host.New(one(v), 0), want)
		asked(t, host.New(one(v), 0), answer{"l", []uint64{v}, true})
	}
}

// TestPlaces: one result out of its letter, or one letter that is none, wherever it stands.
func TestPlaces(t *testing.T) {
	for n := 1; n <= 9; n++ {
		for at := range n {
			for _, letters := range []string{strings.Repeat("w", n), strings.Repeat("l", n), strings.Repeat("wl", n)[:n], strings.Repeat("lw", n)[:n]} {
				list := make([]uint64, n)
				for _, v := range values() {
					list[at] = v
					h, o := both(t, one(list...), 0)
					calls(t, h, o, letters)
				}
				for _, c := range []string{"x", "W", "L", "-", " ", "\x00", "\xff"} {
					asked(t, host.New(one(make([]uint64, n)...), 0), answer{letters[:at] + c + letters[at+1:], nil, false})
				}
			}
		}
	}
}

// TestLongCharacters: characters of several bytes fit nothing, by whichever count; the numbers of some of them end like that of a letter.
func TestLongCharacters(t *testing.T) {
	for _, results := range []string{"\u0177", "\u016c", "\u00e9", "\uff77", "\U00010077", "\ufffd", "w\u0177", "\u0177w", "l\u016cl"} {
		for n := range 8 {
			h := host.New(one(make([]uint64, n)...), 0)
			asked(t, h, answer{results, nil, false})
			stands(t, h, 1, 0)
		}
	}
}

// TestRefusedIsTaken: replies that are refused, for each reason; each is taken all the same, and the next call is told the next one.
func TestRefusedIsTaken(t *testing.T) {
	refused := []struct {
		reply   api.Reply
		results string
	}{
		{api.Reply{Trap: true}, ""}, {api.Reply{Trap: true, Results: []uint64{1}}, "w"}, {api.Reply{}, "w"}, {api.Reply{Results: []uint64{1}}, ""},
		{api.Reply{Results: []uint64{1}}, "ww"}, {api.Reply{Results: []uint64{1, 2}}, "w"}, {api.Reply{Results: []uint64{high}}, "w"},
		{api.Reply{Results: []uint64{1, high}}, "lw"}, {api.Reply{Results: []uint64{1}}, "x"}, {api.Reply{Results: []uint64{1, 1}}, "wx"},
	}
	var script []api.Reply
	for k, x := range refused {
		script = append(script, x.reply, api.Reply{Results: []uint64{uint64(k)}})
	}
	h := host.New(script, 0)
	for k, x := range refused {
		asked(t, h, answer{x.results, nil, false})
		stands(t, h, 2*k+1, len(script)-2*k-1)
		asked(t, h, answer{"w", []uint64{uint64(k)}, true})
		stands(t, h, 2*k+2, len(script)-2*k-2)
	}
}

// TestTakenLeft: ahead of and behind each call, whatever was taken at the beginning.
func TestTakenLeft(t *testing.T) {
	for n := range 6 {
		for _, taken := range takens(n) {
			h, o := both(t, replies(n), taken)
			for range n + 3 {
				calls(t, h, o, "w")
			}
		}
	}
}

// TestLong: a script of many replies, from its first to its last.
func TestLong(t *testing.T) {
	h, o := both(t, replies(20000), 7)
	for range 20000 {
		calls(t, h, o, "w")
	}
	stands(t, h, 20000, 0)
}

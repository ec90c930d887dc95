package step_test

import (
	"bytes"
	"fmt"
	"math"
	"slices"
	"strings"
	"testing"

	"flagon/api"
	"flagon/step"
)

// moves: the loads and stores with the bytes that they move, told by hand.
var moves = map[string]int{
	"w.load8u": 1, "w.load8s": 1, "w.load16u": 2, "w.load16s": 2, "w.load": 4, "l.load": 8,
	"w.store8": 1, "w.store16": 2, "w.store": 4, "l.store": 8,
}

// moving is a state ahead of a load or a store at that address, in a memory of so many pages, whose bytes are told by their places; a store's value is v.
func moving(word string, offset int64, pages int, address, v uint64) (api.Module, api.State) {
	x := plain[word]
	m := paged(0, 64, ">"+x.pushes, "", consts(x.pops)+fmt.Sprint(word, ":", offset)+" end")
	stack := []uint64{address, v}[:len(x.pops)]
	s := standing(m, len(stack), stack...)
	s.Pages = blank(pages)
	for at := range pages * size {
		s.Pages[at/size][at%size] = byte(at*7 + at/size + 129)
	}
	return m, s
}

// TestEdges: each load and store at the memory's last bytes and beyond it, with no pages at all, with addresses whose highest bit is set, and with offsets that lead beyond 32 bits.
func TestEdges(t *testing.T) {
	for word, n := range moves {
		for _, pages := range []int{0, 1, 2} {
			end := uint64(pages * size)
			addresses := []uint64{0, 1, size - 1, size - 2, size - 4, size - 8, size, 1 << 31, 1<<31 + 5, high - 1, high - 8, high - size}
			for back := range uint64(10) {
				if end >= back {
					addresses = append(addresses, end-back)
				}
			}
			for _, address := range append(addresses, end+1) {
				for _, offset := range []int64{0, 1, 4, size - 1, size, 1 << 31, high - 1, high - size, high - 8} {
					m, s := moving(word, offset, pages, address, 0x8182838485868788)
					if strings.HasPrefix(word, "w.store") {
						s.Frames[0].Stack[1] %= high
					}
					got := walk(t, m, nil, s, 1)
					if inside := address+uint64(offset)+uint64(n) <= end; inside != (got.End == suspended) || !inside && got.Trap != trapMemory {
						t.Fatalf("%s:%d at %d of %d pages: %s", word, offset, address, pages, show(got))
					}
				}
			}
		}
	}
}

// TestLoads: little end first, the sign carried on by an s to 32 bits, and not beyond; across two pages, too.
func TestLoads(t *testing.T) {
	for _, x := range []struct {
		word  string
		bytes []byte
		want  uint64
	}{
		{"w.load8u", []byte{0x7f, 0xff}, 0x7f}, {"w.load8u", []byte{0x80}, 0x80}, {"w.load8u", []byte{0xff}, 0xff},
		{"w.load8s", []byte{0x7f, 0xff}, 0x7f}, {"w.load8s", []byte{0x80}, 0xffffff80}, {"w.load8s", []byte{0xff}, 0xffffffff}, {"w.load8s", []byte{0, 0xff}, 0},
		{"w.load16u", []byte{0xff, 0x7f, 0xff}, 0x7fff}, {"w.load16u", []byte{0, 0x80}, 0x8000}, {"w.load16u", []byte{0xff, 0xff}, 0xffff},
		{"w.load16s", []byte{0xff, 0x7f, 0xff}, 0x7fff}, {"w.load16s", []byte{0, 0x80}, 0xffff8000}, {"w.load16s", []byte{0x80, 0}, 0x80}, {"w.load16s", []byte{0xff, 0xff}, 0xffffffff},
		{"w.load", []byte{1, 2, 3, 4, 5}, 0x04030201}, {"w.load", []byte{0, 0, 0, 0x80, 0xff}, 0x80000000}, {"w.load", []byte{0xff, 0xff, 0xff, 0xff, 1}, 0xffffffff},
		{"l.load", []byte{1, 2, 3, 4, 5, 6, 7, 8, 9}, 0x0807060504030201}, {"l.load", []byte{0, 0, 0, 0, 0, 0, 0, 0x80, 1}, 1 << 63}, {"l.load", []byte{255, 255, 255, 255, 255, 255, 255, 255}, math.MaxUint64},
	} {
		for _, address := range []uint64{0, 16, size - 1, size - 3, size - 7, size} {
			for _, offset := range []int64{0, 3} {
				m, s := moving(x.word, offset, 3, address, 0)
				for k, b := range x.bytes {
					at := int(address) + int(offset) + k
					s.Pages[at/size][at%size] = b
				}
				got := walk(t, m, nil, s, 1)
				if f := got.Frames[0]; f.Pc != 2 || !slices.Equal(f.Stack, []uint64{x.want}) || !slices.EqualFunc(got.Pages, s.Pages, bytes.Equal) {
					t.Errorf("%s of %x at %d: %x, not %x", x.word, x.bytes, address, f.Stack, x.want)
				}
			}
		}
	}
}

// TestStores: so many bytes as the word says, little end first, and no others.
func TestStores(t *testing.T) {
	for _, x := range []struct {
		word string
		v    uint64
		want []byte
	}{
		{"w.store8", 0x12345678, []byte{0x78}}, {"w.store8", 0xffffff80, []byte{0x80}}, {"w.store8", 0xffffff00, []byte{0}},
		{"w.store16", 0x12345678, []byte{0x78, 0x56}}, {"w.store16", 0xffff0000, []byte{0, 0}},
		{"w.store", 0x12345678, []byte{0x78, 0x56, 0x34, 0x12}}, {"w.store", 0xffffffff, []byte{255, 255, 255, 255}},
		{"l.store", 0x123456789abcdef0, []byte{0xf0, 0xde, 0xbc, 0x9a, 0x78, 0x56, 0x34, 0x12}}, {"l.store", 0, make([]byte, 8)},
	} {
		for _, address := range []uint64{0, 16, size - 1, size - 3, size - 7, size, 3*size - 8 - 3} {
			for _, offset := range []int64{0, 3} {
				m, s := moving(x.word, offset, 3, address, x.v)
				row := bytes.Join(s.Pages, nil)
				copy(row[int(address)+int(offset):], x.want)
				got := walk(t, m, nil, s, 1)
				if f := got.Frames[0]; f.Pc != 3 || len(f.Stack) != 0 || !bytes.Equal(bytes.Join(got.Pages, nil), row) || len(got.Pages) != 3 {
					t.Errorf("%s of %x at %d: %s", x.word, x.v, address, show(got))
				}
			}
		}
	}
}

// TestStoreBeyond: a store of which a part lies beyond the memory changes no byte of the other part.
func TestStoreBeyond(t *testing.T) {
	for word, n := range moves {
		if !strings.Contains(word, "store") {
			continue
		}
		for pages := range 3 {
			for at := max(0, pages*size-n+1); at <= pages*size; at++ {
				m, s := moving(word, 0, pages, uint64(at), 0)
				got := walk(t, m, nil, s, 1)
				if got.End != trapped || got.Trap != trapMemory || got.Used != 1 || !slices.EqualFunc(got.Pages, s.Pages, bytes.Equal) {
					t.Errorf("%s at %d of %d pages: %s", word, at, pages, show(got))
				}
			}
		}
	}
}

// TestGrow: by 0, to Most, one beyond it, by numbers with the highest bit set; the new pages are noughts, the old ones stay.
func TestGrow(t *testing.T) {
	for _, most := range []int{0, 1, 2, 3, 63, 64} {
		for pages := 0; pages <= most; pages += max(1, most/3) {
			room := uint64(most - pages)
			for _, n := range []uint64{0, 1, 2, room, room + 1, 64, 65, 1 << 20, math.MaxInt32, 1 << 31, 1<<31 + room, high - uint64(pages), high - 1} {
				if n >= high {
					continue
				}
				m := paged(0, most, ">w", "", "w.const grow end")
				s := standing(m, 1, n)
				s.Pages = blank(pages)
				for at := range s.Pages {
					s.Pages[at][size-1-at] = byte(at + 1)
				}
				got := walk(t, m, nil, s, 1)
				want, grown := uint64(high-1), pages
				if n <= room {
					want, grown = uint64(pages), pages+int(n)
				}
				if f := got.Frames[0]; !slices.Equal(f.Stack, []uint64{want}) || f.Pc != 2 || len(got.Pages) != grown {
					t.Fatalf("grow of %d by %d, at most %d: %s", pages, n, most, show(got))
				}
				if !slices.EqualFunc(got.Pages[:pages], s.Pages, bytes.Equal) || !slices.EqualFunc(got.Pages[pages:], blank(grown-pages), bytes.Equal) {
					t.Fatalf("grow of %d by %d, at most %d: the bytes", pages, n, most)
				}
			}
		}
	}
}

// TestSize: the pages, ahead of a grow and behind it; what came by it can be stored to.
func TestSize(t *testing.T) {
	for pages := range 65 {
		m := paged(0, 64, ">w", "", "size end")
		s := begun(m)
		s.Pages = blank(pages)
		if got := walk(t, m, nil, s, 1); !slices.Equal(got.Frames[0].Stack, []uint64{uint64(pages)}) {
			t.Errorf("size of %d pages: %s", pages, show(got))
		}
	}
	m := paged(1, 3, ">wwwww", "", "size w.const:2 grow size w.const:1 grow w.const:8192 w.const:7 w.store8:4095 w.const:12287 w.load8u end")
	runs(t, m, "halted used 12 results 1 1 3 4294967295 7 pages 3 1")
	none := paged(0, 0, ">ww", "", "size w.const:1 grow end")
	runs(t, none, "halted used 4 results 0 4294967295")
	low := paged(1, 1, ">", "", "w.const:4096 w.const:1 w.store8 end")
	runs(t, low, "trapped used 3 trap 2 pages 1 0")
}

// hosting is a function that asks a host of that type, standing ahead of it with those parameters above a 77.
func hosting(kinds string, params ...uint64) (api.Module, api.State) {
	ahead, _, _ := strings.Cut(kinds, ">")
	m := of(">", "", consts("l"+ahead)+"host:1 trap end")
	m.Hosts = []int{kind(&m, ">"), kind(&m, kinds)}
	return m, standing(m, 1+len(ahead), append([]uint64{77}, params...)...)
}

// TestHost: a host that answers, that traps, that answers with what does not fit, that has no reply left; and Replies behind each.
func TestHost(t *testing.T) {
	for _, x := range []struct {
		kinds, params string
		reply         api.Reply
		results       string
		goes          bool
	}{
		{">", "", api.Reply{}, "", true},
		{"w>w", "9", api.Reply{Results: numbers("5")}, "5", true},
		{"wl>lw", "8 9", api.Reply{Results: numbers("18446744073709551615 4294967295")}, "18446744073709551615 4294967295", true},
		{"wl>", "8 9", api.Reply{Results: []uint64{}}, "", true},
		{"llllllll>wwwwwwww", "1 2 3 4 5 6 7 8", api.Reply{Results: numbers("8 7 6 5 4 3 2 1")}, "8 7 6 5 4 3 2 1", true},
		{">", "", api.Reply{Trap: true}, "", false},
		{"w>w", "9", api.Reply{Trap: true}, "", false},
		{"w>w", "9", api.Reply{Results: numbers("5"), Trap: true}, "", false},
		{"w>w", "9", api.Reply{}, "", false},
		{">", "", api.Reply{Results: numbers("5")}, "", false},
		{"w>w", "9", api.Reply{Results: numbers("5 6")}, "", false},
		{"w>w", "9", api.Reply{Results: numbers("4294967296")}, "", false},
		{"w>lw", "9", api.Reply{Results: numbers("1 18446744073709551615")}, "", false},
		{"w>lw", "9", api.Reply{Results: numbers("1")}, "", false},
	} {
		m, s := hosting(x.kinds, numbers(x.params)...)
		for taken := range 3 {
			script := append(slices.Repeat([]api.Reply{{Results: numbers("66 66 66")}}, taken), x.reply, api.Reply{Trap: true})
			s.Replies = taken
			got := walk(t, m, script, s, 1)
			want := "trapped used 1 trap 6"
			if x.goes {
				want = strings.TrimSuffix(fmt.Sprint("suspended used 1 frame 0 at ", s.Frames[0].Pc+1, " locals stack 77 ", x.results), " ")
			}
			if want = fmt.Sprint(want, " replies ", taken+1); show(got) != want {
				t.Errorf("%s, %v: %s, not %s", x.kinds, x.reply, show(got), want)
			}
			for _, replies := range []int{taken + 2, taken + 3, 100, math.MaxInt32, math.MaxInt} {
				s.Replies = replies
				if got := walk(t, m, script, s, 1); got.End != trapped || got.Trap != trapHost || got.Replies != replies || got.Used != 1 || len(got.Frames) != 0 {
					t.Errorf("%s, no reply left: %s", x.kinds, show(got))
				}
			}
			s.Replies = taken
			if got := walk(t, m, script[:taken], s, 1); got.End != trapped || got.Trap != trapHost || got.Replies != taken {
				t.Errorf("%s, no reply left: %s", x.kinds, show(got))
			}
		}
	}
}

// TestScript: replies are taken one by one, by whichever host and in whichever frame; a run that is cut goes on where it was.
func TestScript(t *testing.T) {
	m := of("w>w", "", "get:0 host:0 call:1 host:1 drop host:0 end")
	m.Hosts = []int{kind(&m, "w>w"), kind(&m, ">w")}
	put(&m, "w>w", "", "get:0 host:0 host:1 w.add end")
	script := []api.Reply{{Results: numbers("10")}, {Results: numbers("20")}, {Results: numbers("30")}, {Results: numbers("40")}, {Results: numbers("50")}, {Results: numbers("60")}}
	comes(t, m, script, begun(m, 1), 3, "suspended used 3 frame 0 at 2 locals 1 stack frame 1 at 0 locals 10 stack replies 1")
	comes(t, m, script, begun(m, 1), 6, "suspended used 6 frame 0 at 2 locals 1 stack frame 1 at 3 locals 10 stack 20 30 replies 3")
	comes(t, m, script, begun(m, 1), 99, "halted used 12 results 50 replies 5")
	comes(t, m, script[:4], begun(m, 1), 99, "trapped used 11 trap 6 replies 4")
	comes(t, m, script[:2], begun(m, 1), 99, "trapped used 6 trap 6 replies 2")
	comes(t, m, nil, begun(m, 1), 99, "trapped used 2 trap 6")
}

// TestMostUsed: Used stops at 2^62, and the run goes on.
func TestMostUsed(t *testing.T) {
	m := of("w>", "", "loop:> get:0 w.const:1 w.add set:0 br:0 end end")
	for back := range int64(8) {
		s := begun(m, 0)
		s.Used = mostUsed - back
		got := walk(t, m, nil, s, 26)
		if got.Used != min(mostUsed, s.Used+26) || got.Frames[0].Locals[0] != 5 || got.Frames[0].Pc != 1 {
			t.Errorf("26 steps from %d: %s", s.Used, show(got))
		}
		for n := range 10 {
			if got, e := step.Steps(m, nil, s, n); e != api.OK || got.Used != min(mostUsed, s.Used+int64(n)) {
				t.Errorf("%d steps from %d: %s", n, s.Used, show(got))
			}
		}
	}
	for _, x := range []struct{ code, want string }{
		{"nop end", "halted used 4611686018427387904 results"},
		{"nop trap end", "trapped used 4611686018427387904 trap 1"},
	} {
		m := of(">", "", x.code)
		for _, used := range []int64{mostUsed, mostUsed - 1, mostUsed - 2} {
			s := begun(m)
			s.Used = used
			comes(t, m, nil, s, 2, x.want)
		}
	}
}

// TestTrapped: what a trapping instruction leaves: globals, pages, replies and fuel as they were made by those ahead, and nothing else.
func TestTrapped(t *testing.T) {
	ahead := "w.const:6 gset:0 w.const:1 grow drop w.const:4096 w.const:-1 w.store16 host:0 drop "
	for _, x := range []struct {
		code string
		trap int8
		used int64
	}{
		{"trap end", trapOp, 11},
		{"w.const:8192 w.const:7 w.store8 end", trapMemory, 13},
		{"w.const:8190 w.const:7 w.store end", trapMemory, 13},
		{"w.const:8185 l.const:7 l.store end", trapMemory, 13},
		{"w.const:-1 w.load8u drop end", trapMemory, 12},
		{"w.const:1 w.const:0 w.divu drop end", trapZero, 13},
		{"l.const:1 l.const:0 l.rems drop end", trapZero, 13},
		{"w.const:-2147483648 w.const:-1 w.divs gset:0 end", trapRange, 13},
		{"l.const:-9223372036854775808 l.const:-1 l.divs drop end", trapRange, 13},
		{"call:1 end", trapFrames, 74},
		{"w.const:5 host:1 end", trapHost, 12},
	} {
		var m api.Module
		m.Globals = []api.Global{{Letter: 'w', Mutable: true, Value: 5}, {Letter: 'l', Value: 3}}
		m.First, m.Most = 1, 2
		m.Hosts = []int{kind(&m, ">l"), kind(&m, "w>")}
		put(&m, ">", "", ahead+x.code)
		put(&m, ">", "", "call:1 end")
		replies := 1
		if x.trap == trapHost {
			replies = 2
		}
		script := []api.Reply{{Results: numbers("9")}, {Trap: true}, {}}
		got := comes(t, m, script, begun(m), 1000, fmt.Sprint("trapped used ", x.used, " trap ", x.trap, " globals 6 3 pages 2 2 replies ", replies))
		if got.Pages[1][0] != 255 || got.Pages[1][1] != 255 || len(got.Results) != 0 || len(got.Frames) != 0 {
			t.Errorf("%s: %s", x.code, show(got))
		}
	}
}

// TestDivision: by nought, and the least number by -1, in both widths.
func TestDivision(t *testing.T) {
	for _, letter := range []string{"w", "l"} {
		least, ones := uint64(1<<31), uint64(high-1)
		if letter == "l" {
			least, ones = 1<<63, math.MaxUint64
		}
		for _, word := range []string{"divs", "divu", "rems", "remu"} {
			m := of(letter+letter+">"+letter, "", "get:0 get:1 "+letter+"."+word+" end")
			for _, a := range []uint64{0, 1, 7, least - 1, least, least + 1, ones} {
				runs(t, m, "trapped used 3 trap 3", a, 0)
			}
			want := map[string]string{"divs": "trapped used 3 trap 4", "divu": "halted used 4 results 0", "rems": "halted used 4 results 0", "remu": fmt.Sprint("halted used 4 results ", least)}[word]
			runs(t, m, want, least, ones)
		}
	}
}

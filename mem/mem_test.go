package mem_test

import (
	"bytes"
	"math"
	"slices"
	"testing"

	"flagon/api"
	"flagon/mem"
)

// answers: what is loaded of each place, by its width.
func answers(m *mem.Memory, places ...[2]uint64) []uint64 {
	var list []uint64
	for _, p := range places {
		v, _ := m.Load(p[0], int(p[1]))
		list = append(list, v)
	}
	return list
}

// TestExamples: the chapter's table, row by row.
func TestExamples(t *testing.T) {
	m := made(t, 1, 2)
	if !m.Store(4094, 2, 258) || !slices.Equal(answers(m, [2]uint64{4094, 1}, [2]uint64{4095, 1}, [2]uint64{4094, 2}), []uint64{2, 1, 258}) {
		t.Error("P13.2: the first row")
	}
	if m.Store(4095, 2, 1) {
		t.Error("P13.2: Store(4095, 2, 1)")
	}
	for _, x := range []struct {
		addr uint64
		n    int
	}{{4096, 1}, {0, 3}, {math.MaxUint64, 2}} {
		if v, ok := m.Load(x.addr, x.n); v != 0 || ok {
			t.Errorf("P13.2: Load(%d, %d): %d, %v", x.addr, x.n, v, ok)
		}
	}
	if !slices.Equal(m.Dirty(), []int{0}) || m.Grow(1) != 1 || !slices.Equal(m.Dirty(), []int{0, 1}) || m.Size() != 2 || m.Grow(1) != -1 || m.Grow(1<<63) != -1 {
		t.Error("P13.3, P13.4: the third row")
	}
	if v, ok := m.Load(4096, 4); !m.Store(4095, 8, math.MaxUint64) || v != 0 || !ok {
		t.Error("P13.2: Store(4095, 8, 2^64 - 1)")
	}
	if v, ok := m.Load(4096, 4); v != 1<<32-1 || !ok {
		t.Errorf("P13.2: Load(4096, 4): %d, %v", v, ok)
	}
	if !m.Clean() || len(m.Dirty()) != 0 {
		t.Error("P13.4: Clean; Dirty")
	}
}

// TestNew: at each bound, and one beyond.
func TestNew(t *testing.T) {
	for _, x := range []struct {
		pages, most int
		e           api.Errno
	}{
		{0, 0, api.OK}, {0, 1, api.OK}, {1, 1, api.OK}, {0, 64, api.OK}, {63, 64, api.OK}, {64, 64, api.OK},
		{-1, 0, api.ErrArg}, {-1, -1, api.ErrArg}, {-2, -1, api.ErrArg}, {-1, 64, api.ErrArg}, {0, -1, api.ErrArg},
		{1, 0, api.ErrArg}, {2, 1, api.ErrArg}, {64, 63, api.ErrArg}, {65, 64, api.ErrArg},
		{0, 65, api.ErrArg}, {64, 65, api.ErrArg}, {65, 65, api.ErrArg}, {-1, 65, api.ErrArg},
		{math.MaxInt, math.MaxInt, api.ErrArg}, {0, math.MaxInt, api.ErrArg}, {math.MaxInt, 64, api.ErrArg},
		{math.MinInt, 64, api.ErrArg}, {math.MinInt, math.MinInt, api.ErrArg}, {0, math.MinInt, api.ErrArg},
	} {
		m, e := mem.New(x.pages, x.most)
		if e != x.e || (m != nil) != (e == api.OK) {
			t.Fatalf("P13.1: New(%d, %d): %v, %d", x.pages, x.most, m != nil, e)
		}
		if e == api.OK {
			hold(t, m, modelOf(make([]byte, x.pages*size), x.most))
		}
	}
}

// TestNewMost: each count of pages up to each most is taken, and Grow comes just to that most.
func TestNewMost(t *testing.T) {
	for most := -1; most <= 66; most++ {
		for pages := -1; pages <= 66; pages++ {
			m, e := mem.New(pages, most)
			if may := 0 <= pages && pages <= most && most <= 64; may != (e == api.OK) || may != (m != nil) || !may && e != api.ErrArg {
				t.Fatalf("P13.1: New(%d, %d): %v, %d", pages, most, m != nil, e)
			}
			if e != api.OK {
				continue
			}
			if n := m.Grow(uint64(most - pages + 1)); n != -1 {
				t.Fatalf("P13.3: of New(%d, %d), Grow above most: %d", pages, most, n)
			}
			if n := m.Grow(uint64(most - pages)); n != int64(pages) || m.Size() != most {
				t.Fatalf("P13.3: of New(%d, %d), Grow up to most: %d, now %d", pages, most, n, m.Size())
			}
		}
	}
}

// TestFrom: how many pages, and at most how many.
func TestFrom(t *testing.T) {
	for _, x := range []struct {
		pages, most int
		e           api.Errno
	}{
		{0, 0, api.OK}, {0, 1, api.OK}, {0, 64, api.OK}, {1, 1, api.OK}, {1, 2, api.OK}, {2, 64, api.OK}, {64, 64, api.OK},
		{0, -1, api.ErrArg}, {0, math.MinInt, api.ErrArg}, {1, 0, api.ErrArg}, {1, -1, api.ErrArg}, {2, 1, api.ErrArg}, {64, 63, api.ErrArg},
		{65, 64, api.ErrArg}, {0, 65, api.ErrArg}, {1, 65, api.ErrArg}, {64, 65, api.ErrArg}, {65, 65, api.ErrArg}, {0, math.MaxInt, api.ErrArg}, {66, 70, api.ErrArg},
	} {
		list := filled(x.pages)
		m, e := mem.From(list, x.most)
		if e != x.e || (m != nil) != (e == api.OK) {
			t.Errorf("P13.1: From(%d pages, %d): %v, %d", x.pages, x.most, m != nil, e)
			continue
		}
		if e == api.OK {
			o := modelOf(bytes.Join(list, nil), x.most)
			hold(t, m, o)
			grows(t, m, o, uint64(x.most-x.pages+1))
			grows(t, m, o, uint64(x.most-x.pages))
			hold(t, m, o)
		}
	}
}

// TestFromPage: a page of another length than 4096, wherever it stands.
func TestFromPage(t *testing.T) {
	for _, long := range []int{-1, 0, 1, 2048, 4095, 4096, 4097, 8191, 8192, 12288} {
		for pages := 1; pages <= 4; pages++ {
			for at := range pages {
				list := filled(pages)
				list[at] = nil
				if long >= 0 {
					list[at] = make([]byte, long, long+4096)
				}
				want := api.ErrArg
				if long == 4096 {
					want = api.OK
				}
				if m, e := mem.From(list, 4); e != want || (m != nil) != (e == api.OK) {
					t.Errorf("P13.1: From %d pages, the page %d of %d bytes: %v, %d", pages, at, long, m != nil, e)
				}
			}
		}
	}
	list := filled(2)
	list[0], list[1] = list[0][:4095], append(list[1], 1)
	if m, e := mem.From(list, 2); m != nil || e != api.ErrArg {
		t.Errorf("P13.1: 4095 and 4097 bytes: %v, %d", m != nil, e)
	}
}

// TestNoPages: nil and empty are the same, and answer as New(0, most).
func TestNoPages(t *testing.T) {
	for _, list := range [][][]byte{nil, {}, make([][]byte, 0, 3)} {
		m, o := madeFrom(t, list, 2), modelOf(nil, 2)
		hold(t, m, o)
		for n := -1; n <= 9; n++ {
			loads(t, m, o, 0, n)
			stores(t, m, o, 0, n, 1)
			loads(t, m, o, math.MaxUint64, n)
			stores(t, m, o, math.MaxUint64, n, 1)
		}
		hold(t, m, o)
		grows(t, m, o, 3)
		grows(t, m, o, 1)
		stores(t, m, o, 4088, 8, math.MaxUint64)
		hold(t, m, o)
	}
}

// edges are addresses around pages' borders, the memory's end and where adding a width goes round.
func edges(pages int) []uint64 {
	var list []uint64
	for k := 0; k <= pages+1; k++ {
		border := uint64(k) * size
		for back := uint64(9); back >= 1; back-- {
			if border >= back {
				list = append(list, border-back)
			}
		}
		for on := range uint64(10) {
			list = append(list, border+on)
		}
	}
	list = append(list, 1000, 2049, size*64-1, size*64, size*64+1)
	for on := range uint64(20) {
		list = append(list, math.MaxUint64-on, 1<<63-10+on, 1<<32-10+on, 1<<31-10+on, 1<<63+size-10+on, 1<<32+on)
	}
	return list
}

// numbers are the n of Load and Store: each from -1 to 9, and some far ones.
func numbers() []int {
	list := []int{16, 32, 64, 256, 4096, -2, -8, math.MaxInt, math.MinInt, 1 << 32, 1<<32 + 1, 1<<33 + 8, 257, 264}
	for n := -1; n <= 9; n++ {
		list = append(list, n)
	}
	return list
}

// TestLoad: each number at each edge, of memories of 0 to 3 pages that have grown or not.
func TestLoad(t *testing.T) {
	for pages := range 4 {
		m, o := bothFrom(t, pages, 4)
		for _, addr := range edges(pages) {
			for _, n := range numbers() {
				loads(t, m, o, addr, n)
			}
		}
		hold(t, m, o)
		grows(t, m, o, 1)
		for _, addr := range edges(pages + 1) {
			for _, n := range numbers() {
				loads(t, m, o, addr, n)
			}
		}
	}
}

// TestStore: each number at each edge; just those bytes lie there, just their pages are dirty, and one that is refused does nothing.
func TestStore(t *testing.T) {
	for pages := range 4 {
		m, o := bothFrom(t, pages, 4)
		for k, addr := range edges(pages) {
			for _, n := range numbers() {
				stores(t, m, o, addr, n, 0x8182838485868788+uint64(k)*0x0101010101010101)
				if list := m.Dirty(); !slices.Equal(list, o.marked()) {
					t.Fatalf("P13.2: Store(%d, %d), Dirty: %v, not %v", addr, n, list, o.marked())
				}
				cleans(t, m, o)
				loads(t, m, o, addr, 1)
				loads(t, m, o, addr, n)
			}
			hold(t, m, o)
		}
	}
}

// TestDirtyOf: which pages a store makes dirty, by the places and widths at a border.
func TestDirtyOf(t *testing.T) {
	for _, x := range []struct {
		addr uint64
		n    int
		want []int
	}{
		{0, 1, []int{0}}, {0, 8, []int{0}}, {4095, 1, []int{0}}, {4096, 1, []int{1}}, {4088, 8, []int{0}}, {4089, 8, []int{0, 1}}, {4095, 2, []int{0, 1}},
		{4095, 8, []int{0, 1}}, {4093, 4, []int{0, 1}}, {4092, 4, []int{0}}, {8191, 4, []int{1, 2}}, {8192, 8, []int{2}}, {12287, 1, []int{2}}, {12280, 8, []int{2}},
		{12281, 8, nil}, {12288, 1, nil}, {12287, 2, nil}, {0, 0, nil}, {0, 3, nil}, {4095, 5, nil}, {4095, -2, nil}, {1 << 63, 8, nil}, {math.MaxUint64 - 7, 8, nil}, {math.MaxUint64, 1, nil}, {math.MaxUint64, 2, nil},
	} {
		m := made(t, 3, 3)
		if ok := m.Store(x.addr, x.n, 0); ok != (x.want != nil) || !slices.Equal(m.Dirty(), x.want) {
			t.Errorf("P13.2: Store(%d, %d, 0): %v, dirty %v", x.addr, x.n, ok, m.Dirty())
		}
		if b := bytes.Join(m.Pages(), nil); !bytes.Equal(b, make([]byte, 3*size)) {
			t.Errorf("P13.2: Store(%d, %d, 0) stored something", x.addr, x.n)
		}
	}
}

// TestOrder: the lowest byte is the one at addr, of each width, and what is above the width is not stored.
func TestOrder(t *testing.T) {
	for _, addr := range []uint64{0, 1, 100, 4088, 4092, 4095, 8184} {
		for _, n := range []int{1, 2, 4, 8} {
			m := madeFrom(t, filled(2), 2)
			before := bytes.Join(m.Pages(), nil)
			if !m.Store(addr, n, 0xf1e2d3c4b5a69788) {
				t.Fatalf("P13.2: Store(%d, %d)", addr, n)
			}
			copy(before[addr:], []byte{0x88, 0x97, 0xa6, 0xb5, 0xc4, 0xd3, 0xe2, 0xf1}[:n])
			if !bytes.Equal(bytes.Join(m.Pages(), nil), before) {
				t.Errorf("P13.2: Store(%d, %d): other bytes", addr, n)
			}
			if v, ok := m.Load(addr, n); !ok || v != 0xf1e2d3c4b5a69788&(1<<(8*n)-1) {
				t.Errorf("P13.2: Load(%d, %d): %x, %v", addr, n, v, ok)
			}
		}
	}
}

// TestEveryPage: of a memory of 64 pages each page is stored to, by itself and across its border.
func TestEveryPage(t *testing.T) {
	m, o := both(t, 64, 64)
	for k := range uint64(64) {
		stores(t, m, o, k*size+k, 1, k+1)
		hold(t, m, o)
		cleans(t, m, o)
		stores(t, m, o, k*size+4093, 8, 0x0102030405060708*(k+1))
		hold(t, m, o)
		cleans(t, m, o)
		stores(t, m, o, k*size+4088, 8, math.MaxUint64-k)
		hold(t, m, o)
	}
}

package mem_test

import (
	"bytes"
	"math/big"
	"slices"
	"testing"

	"flagon/api"
	"flagon/mem"
)

// size is a page's bytes, told once more here so that the limits are tested, too.
const size = 4096

// model is the document's memory: bytes in one row, and the numbers of the dirty pages.
type model struct {
	most  int
	b     []byte
	dirty map[int]bool
}

func modelOf(b []byte, most int) *model {
	return &model{most: most, b: slices.Clone(b), dirty: map[int]bool{}}
}

// inside: do n bytes from addr on lie in the memory? The sum is one of whole numbers, so that it never goes round.
func (o *model) inside(addr uint64, n int) bool {
	if n != 1 && n != 2 && n != 4 && n != 8 {
		return false
	}
	behind := new(big.Int).Add(new(big.Int).SetUint64(addr), big.NewInt(int64(n)))
	return behind.Cmp(big.NewInt(int64(len(o.b)))) <= 0
}

func (o *model) load(addr uint64, n int) (uint64, bool) {
	if !o.inside(addr, n) {
		return 0, false
	}
	v := uint64(0)
	for k := n - 1; k >= 0; k-- {
		v = v*256 + uint64(o.b[int(addr)+k])
	}
	return v, true
}

func (o *model) store(addr uint64, n int, v uint64) bool {
	if !o.inside(addr, n) {
		return false
	}
	for k := range n {
		o.b[int(addr)+k] = byte(v % 256)
		o.dirty[(int(addr)+k)/size] = true
		v /= 256
	}
	return true
}

func (o *model) grow(n uint64) int64 {
	before := len(o.b) / size
	sum := new(big.Int).Add(new(big.Int).SetUint64(n), big.NewInt(int64(before)))
	if sum.Cmp(big.NewInt(int64(o.most))) > 0 {
		return -1
	}
	for k := range int(n) {
		o.dirty[before+k] = true
		o.b = append(o.b, make([]byte, size)...)
	}
	return int64(before)
}

func (o *model) marked() []int {
	var list []int
	for k := range 64 {
		if o.dirty[k] {
			list = append(list, k)
		}
	}
	return list
}

// hold: does the memory tell of itself what the model does?
func hold(t *testing.T, m *mem.Memory, o *model) {
	t.Helper()
	if m.Size() != len(o.b)/size {
		t.Fatalf("P13.3: Size: %d, not %d", m.Size(), len(o.b)/size)
	}
	if list := m.Dirty(); !slices.Equal(list, o.marked()) {
		t.Fatalf("P13.4: Dirty: %v, not %v", list, o.marked())
	}
	pages := m.Pages()
	if len(pages) != len(o.b)/size {
		t.Fatalf("P13.4: Pages: %d of them, not %d", len(pages), len(o.b)/size)
	}
	for k, p := range pages {
		if !bytes.Equal(p, o.b[k*size:(k+1)*size]) {
			t.Fatalf("P13.4: Pages: the page %d is another one", k)
		}
	}
}

func loads(t *testing.T, m *mem.Memory, o *model, addr uint64, n int) {
	t.Helper()
	v, ok := m.Load(addr, n)
	if want, is := o.load(addr, n); v != want || ok != is {
		t.Fatalf("P13.2: Load(%d, %d): %d, %v, not %d, %v", addr, n, v, ok, want, is)
	}
}

func stores(t *testing.T, m *mem.Memory, o *model, addr uint64, n int, v uint64) {
	t.Helper()
	ok := m.Store(addr, n, v)
	if is := o.store(addr, n, v); ok != is {
		t.Fatalf("P13.2: Store(%d, %d, %d): %v, not %v", addr, n, v, ok, is)
	}
}

func grows(t *testing.T, m *mem.Memory, o *model, n uint64) {
	t.Helper()
	before := m.Grow(n)
	if want := o.grow(n); before != want {
		t.Fatalf("P13.3: Grow(%d): %d, not %d", n, before, want)
	}
}

// cleans: Clean of both.
func cleans(t *testing.T, m *mem.Memory, o *model) {
	t.Helper()
	clear(o.dirty)
	if !m.Clean() {
		t.Fatal("P13.4: Clean: false")
	}
}

func made(t *testing.T, pages, most int) *mem.Memory {
	t.Helper()
	m, e := mem.New(pages, most)
	if m == nil || e != api.OK {
		t.Fatalf("P13.1: New(%d, %d): %v, %d", pages, most, m != nil, e)
	}
	return m
}

func madeFrom(t *testing.T, pages [][]byte, most int) *mem.Memory {
	t.Helper()
	m, e := mem.From(pages, most)
	if m == nil || e != api.OK {
		t.Fatalf("P13.1: From(%d pages, %d): %v, %d", len(pages), most, m != nil, e)
	}
	return m
}

// both: a memory of New, and its model.
func both(t *testing.T, pages, most int) (*mem.Memory, *model) {
	t.Helper()
	return made(t, pages, most), modelOf(make([]byte, pages*size), most)
}

// filled: so many pages in which no two bytes side by side are alike, and no two pages.
func filled(pages int) [][]byte {
	list := make([][]byte, pages)
	for k := range list {
		list[k] = make([]byte, size)
		for at := range list[k] {
			list[k][at] = byte(at*7 + at/256 + k*31 + 1)
		}
	}
	return list
}

// bothFrom: a memory From filled pages, and its model.
func bothFrom(t *testing.T, pages, most int) (*mem.Memory, *model) {
	t.Helper()
	list := filled(pages)
	return madeFrom(t, list, most), modelOf(bytes.Join(list, nil), most)
}

package mem_test

import (
	"math"
	"slices"
	"testing"
)

// far are numbers of pages that no memory has room for.
func far() []uint64 {
	return []uint64{65, 1 << 31, 1 << 32, 1<<32 + 1, 1 << 52, 1<<63 - 1, 1 << 63, 1<<63 + 1, math.MaxUint64 - 64, math.MaxUint64 - 63, math.MaxUint64 - 1, math.MaxUint64}
}

// TestGrow: by 0, by 1, up to most, above it, and far above; what is refused does nothing.
func TestGrow(t *testing.T) {
	for _, most := range []int{0, 1, 2, 5, 63, 64} {
		for pages := 0; pages <= most; pages += 1 + pages/4 {
			m, o := bothFrom(t, pages, most)
			for _, n := range far() {
				grows(t, m, o, n)
			}
			grows(t, m, o, uint64(most-pages+1))
			hold(t, m, o)
			grows(t, m, o, 0)
			hold(t, m, o)
			grows(t, m, o, 1)
			hold(t, m, o)
			grows(t, m, o, uint64(most-m.Size()))
			hold(t, m, o)
			for _, n := range far() {
				grows(t, m, o, n)
			}
			grows(t, m, o, 1)
			grows(t, m, o, 0)
			hold(t, m, o)
		}
	}
}

// TestGrowNear: numbers that added to the pages there are would go round to what has room.
func TestGrowNear(t *testing.T) {
	for pages := range 64 {
		m := made(t, pages, 64)
		for on := range uint64(pages) {
			n := on - uint64(pages)
			if got := m.Grow(n); got != -1 || m.Size() != pages || len(m.Dirty()) != 0 {
				t.Fatalf("P13.3: of %d pages, Grow(%d): %d, now %d", pages, n, got, m.Size())
			}
		}
	}
}

// TestGrown: new pages are of noughts, can be loaded and stored to, and the old ones stay as they were.
func TestGrown(t *testing.T) {
	m, o := bothFrom(t, 2, 5)
	stores(t, m, o, 8184, 8, math.MaxUint64)
	cleans(t, m, o)
	loads(t, m, o, 8192, 1)
	stores(t, m, o, 8191, 2, 1)
	grows(t, m, o, 2)
	hold(t, m, o)
	loads(t, m, o, 8191, 2)
	loads(t, m, o, 8192, 8)
	stores(t, m, o, 8191, 2, 0x1234)
	loads(t, m, o, 8191, 2)
	loads(t, m, o, 16376, 8)
	loads(t, m, o, 16377, 8)
	hold(t, m, o)
	grows(t, m, o, 1)
	hold(t, m, o)
}

// TestDirty: behind New, From, Store, Grow and Clean, step by step.
func TestDirty(t *testing.T) {
	m := made(t, 2, 6)
	is := func(what string, want ...int) {
		t.Helper()
		if list := m.Dirty(); !slices.Equal(list, want) {
			t.Fatalf("P13.4: %s: %v, not %v", what, list, want)
		}
	}
	is("New")
	m.Load(4095, 2)
	is("Load")
	m.Store(5000, 1, 0)
	is("a Store of what lies there already", 1)
	m.Store(0, 1, 7)
	is("a Store to a page ahead", 0, 1)
	m.Store(1, 1, 7)
	is("a Store to a dirty page", 0, 1)
	m.Grow(0)
	is("Grow(0)", 0, 1)
	m.Grow(2)
	is("Grow(2)", 0, 1, 2, 3)
	m.Grow(3)
	is("a Grow that is refused", 0, 1, 2, 3)
	m.Pages()
	m.Size()
	is("Pages and Size", 0, 1, 2, 3)
	m.Clean()
	is("Clean")
	m.Store(4096*4-1, 2, 7)
	is("a Store that is refused")
	m.Grow(1)
	is("Grow behind Clean", 4)
	m.Store(4096*2-1, 2, 7)
	is("a Store across two pages", 1, 2, 4)
	m.Clean()
	is("Clean again")
	m.Clean()
	is("Clean of a clean one")
	m.Grow(0)
	is("Grow(0) of a clean one")
	m = madeFrom(t, m.Pages(), 6)
	is("From")
	m.Store(4096*5-1, 1, 7)
	is("a Store behind From", 4)
}

// TestClean: it says true each time, and changes no byte.
func TestClean(t *testing.T) {
	m, o := bothFrom(t, 3, 4)
	for range 3 {
		cleans(t, m, o)
		hold(t, m, o)
		stores(t, m, o, 4095, 2, 0x5566)
		hold(t, m, o)
	}
	cleans(t, m, o)
	hold(t, m, o)
	loads(t, m, o, 4095, 2)
	empty := made(t, 0, 0)
	if !empty.Clean() || len(empty.Dirty()) != 0 {
		t.Error("P13.4: Clean of no pages")
	}
}

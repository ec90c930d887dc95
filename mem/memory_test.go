package mem_test

import (
	"bytes"
	"math"
	"math/rand"
	"slices"
	"testing"

	"flagon/mem"
)

// roomyPages: pages with spare room, in a list with spare room.
func roomyPages(pages int) [][]byte {
	list := filled(pages)
	for k := range list {
		list[k] = append(list[k], 77, 77, 77)[:size]
	}
	return append(list, []byte{7}, []byte{7, 7})[:pages]
}

// wholePages: a copy of pages and of all their spare room.
func wholePages(list [][]byte) [][]byte {
	out := slices.Clone(list[:cap(list)])
	for k := range out {
		out[k] = slices.Clone(out[k][:cap(out[k])])
	}
	return out
}

func samePages(a, b [][]byte) bool {
	return slices.EqualFunc(a, b, bytes.Equal)
}

// spoil overwrites pages, their list, and all spare room.
func spoil(list [][]byte) {
	list = list[:cap(list)]
	for k := range list {
		p := list[k][:cap(list[k])]
		for at := range p {
			p[at] ^= 0xff
		}
		list[k] = nil
	}
}

// TestHanded: the pages handed to From are not changed, whatever is done to the memory, taken or refused.
func TestHanded(t *testing.T) {
	r := rand.New(rand.NewSource(135))
	for n := range 40 {
		list := roomyPages(1 + r.Intn(4))
		before := wholePages(list)
		if n%4 == 0 {
			mem.From(list, len(list)-1)
			mem.From(list, 65)
		}
		m, o := madeFrom(t, list, 6), modelOf(bytes.Join(list, nil), 6)
		for range 30 {
			act(t, r, m, o)
		}
		hold(t, m, o)
		if !samePages(wholePages(list), before) {
			t.Fatal("R5: the pages handed to From are changed")
		}
	}
}

// TestHandedRefused: nor where one of them is no page.
func TestHandedRefused(t *testing.T) {
	list := roomyPages(3)
	list[1] = list[1][:size-1]
	before := wholePages(list)
	if m, _ := mem.From(list, 3); m != nil {
		t.Fatal("P13.1: a page of 4095 bytes")
	}
	if !samePages(wholePages(list), before) {
		t.Error("R5: the pages handed to From are changed")
	}
}

// TestNotKept: the pages handed to From may be changed afterwards.
func TestNotKept(t *testing.T) {
	list := roomyPages(3)
	m, o := madeFrom(t, list, 4), modelOf(bytes.Join(list, nil), 4)
	spoil(list)
	hold(t, m, o)
	grows(t, m, o, 1)
	hold(t, m, o)
}

// TestSamePage: one page handed in twice is two pages.
func TestSamePage(t *testing.T) {
	p := filled(1)[0]
	m, o := madeFrom(t, [][]byte{p, p}, 2), modelOf(append(slices.Clone(p), p...), 2)
	stores(t, m, o, 10, 8, math.MaxUint64)
	hold(t, m, o)
}

// TestPagesNew: what Pages told is new memory, each page of it, and stays as it was told.
func TestPagesNew(t *testing.T) {
	m, o := bothFrom(t, 3, 5)
	told := m.Pages()
	before := wholePages(told)
	stores(t, m, o, 4095, 8, 0)
	stores(t, m, o, 12280, 8, 0)
	grows(t, m, o, 2)
	cleans(t, m, o)
	hold(t, m, o)
	if !samePages(wholePages(told), before) {
		t.Fatal("what Pages told did not stay")
	}
	again := m.Pages()
	spoil(again)
	hold(t, m, o)
	list := m.Pages()
	for k := range list {
		p := list[k][:cap(list[k])]
		for at := range p {
			p[at] = byte(k + 100)
		}
	}
	for k := range list {
		if list[k][0] != byte(k+100) || list[k][size-1] != byte(k+100) {
			t.Fatalf("R5: the page %d shares its memory", k)
		}
	}
	hold(t, m, o)
}

// TestDirtyNew: what Dirty told is new memory and stays.
func TestDirtyNew(t *testing.T) {
	m, o := both(t, 4, 6)
	stores(t, m, o, 0, 1, 1)
	stores(t, m, o, 3*size, 1, 1)
	told := m.Dirty()
	stores(t, m, o, size, 1, 1)
	grows(t, m, o, 1)
	if !slices.Equal(told, []int{0, 3}) {
		t.Fatalf("what Dirty told did not stay: %v", told)
	}
	list := m.Dirty()
	list = list[:cap(list)]
	for k := range list {
		list[k] = 99
	}
	hold(t, m, o)
	cleans(t, m, o)
	if !slices.Equal(told, []int{0, 3}) {
		t.Fatalf("what Dirty told did not stay: %v", told)
	}
	hold(t, m, o)
}

// TestAgain: to ask changes nothing.
func TestAgain(t *testing.T) {
	m, o := bothFrom(t, 2, 3)
	stores(t, m, o, 4095, 2, 7)
	for range 4 {
		hold(t, m, o)
		loads(t, m, o, 4094, 4)
	}
}

// TestNewClean: a memory made behind others is of noughts and clean.
func TestNewClean(t *testing.T) {
	for range 4 {
		m, o := both(t, 2, 3)
		hold(t, m, o)
		grows(t, m, o, 1)
		for at := uint64(0); at < 3*size; at += 8 {
			stores(t, m, o, at, 8, math.MaxUint64)
		}
		hold(t, m, o)
	}
}

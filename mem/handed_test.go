package mem_test

import (
	"math"
	"testing"

	"flagon/mem"
)

// none: does each call of it answer zero values?
func none(t *testing.T, m *mem.Memory) {
	t.Helper()
	for _, addr := range []uint64{0, 1, 4095, 4096, 1 << 63, math.MaxUint64} {
		for _, n := range numbers() {
			if v, ok := m.Load(addr, n); v != 0 || ok {
				t.Fatalf("R3: Load(%d, %d): %d, %v", addr, n, v, ok)
			}
			if m.Store(addr, n, 7) {
				t.Fatalf("R3: Store(%d, %d): true", addr, n)
			}
		}
	}
	for _, n := range append(far(), 0, 1, 2, 64) {
		if before := m.Grow(n); before != 0 {
			t.Fatalf("R3: Grow(%d): %d", n, before)
		}
	}
	if m.Size() != 0 || len(m.Pages()) != 0 || len(m.Dirty()) != 0 || m.Clean() {
		t.Fatalf("R3: Size %d, Pages %v, Dirty %v, or Clean", m.Size(), m.Pages(), m.Dirty())
	}
}

// TestNil: a memory that is not there.
func TestNil(t *testing.T) {
	none(t, nil)
	refused, _ := mem.New(1, 0)
	none(t, refused)
	refused, _ = mem.From([][]byte{nil}, 1)
	none(t, refused)
}

// TestPlain: memories that neither New nor From has made; no call makes one of them.
func TestPlain(t *testing.T) {
	var plain mem.Memory
	for _, m := range []*mem.Memory{&plain, new(mem.Memory), {}} {
		none(t, m)
		none(t, m)
	}
}

// TestEmpty: a memory without pages is one, though most of its answers are those of none.
func TestEmpty(t *testing.T) {
	m := made(t, 0, 0)
	if !m.Clean() || m.Grow(1) != -1 || m.Grow(0) != 0 {
		t.Error("P13.3, P13.4: of New(0, 0)")
	}
}

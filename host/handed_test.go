package host_test

import (
	"testing"

	"flagon/host"
)

// none: does each call of it answer zero values?
func none(t *testing.T, h *host.Host) {
	t.Helper()
	for _, results := range []string{"", "w", "l", "wl", "x", "\u0177"} {
		if h.Taken() != 0 || h.Left() != 0 {
			t.Fatalf("P15.3: Taken %d, Left %d", h.Taken(), h.Left())
		}
		if l, ok := h.Call(results); len(l) != 0 || ok {
			t.Fatalf("P15.3: Call(%q): %v, %v", results, l, ok)
		}
		if h.Taken() != 0 || h.Left() != 0 {
			t.Fatalf("P15.3: behind Call(%q): Taken %d, Left %d", results, h.Taken(), h.Left())
		}
	}
}

// TestNil: a host that is not there.
func TestNil(t *testing.T) {
	none(t, nil)
}

// TestPlain: hosts that New has not made; no call makes one of them, and a host that is made beside them changes nothing.
func TestPlain(t *testing.T) {
	var plain host.Host
	for _, h := range []*host.Host{&plain, new(host.Host), {}} {
		none(t, h)
		made := host.New(replies(3), 1)
		none(t, h)
		asked(t, made, answer{"w", []uint64{1}, true})
		none(t, h)
	}
}

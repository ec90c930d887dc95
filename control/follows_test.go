package control_test

import (
	"math/rand"
	"slices"
	"testing"

	"flagon/control"
)

// TestBrackets: of two openers one lies in the other, or they lie apart.
func TestBrackets(t *testing.T) {
	r := rand.New(rand.NewSource(91))
	for range 1500 {
		code := drawn(r, 1+r.Intn(60), 1+r.Intn(32))
		m := ask(code)
		for a, x := range code {
			for b, y := range code {
				if a >= b || !opens(x) || !opens(y) {
					continue
				}
				apart, within := m.ends[a] < b, m.ends[b] < m.ends[a]
				if apart == within {
					t.Fatalf("what follows: %s: %d to %d, %d to %d", told(code), a, m.ends[a], b, m.ends[b])
				}
			}
		}
	}
}

// TestEachEnd ends just one opener, or the body; an else ends where its if does.
func TestEachEnd(t *testing.T) {
	r := rand.New(rand.NewSource(92))
	for range 3000 {
		code := drawn(r, 1+r.Intn(60), 1+r.Intn(32))
		m := ask(code)
		ended := make([]int, len(code))
		for pc, x := range code {
			switch {
			case opens(x):
				if m.ends[pc] <= pc || m.owners[m.ends[pc]] != pc {
					t.Fatalf("what follows: %s: the end of %d is %d", told(code), pc, m.ends[pc])
				}
				ended[m.ends[pc]]++
			case word(x) == "else":
				if owner := m.owners[pc]; m.elses[owner] != pc || m.ends[owner] != m.ends[pc] {
					t.Fatalf("what follows: %s: the else at %d", told(code), pc)
				}
			case m.ends[pc] != -1:
				t.Fatalf("what follows: %s: %d has the end %d", told(code), pc, m.ends[pc])
			}
		}
		for pc, x := range code {
			want := 0
			if word(x) == "end" && pc < len(code)-1 {
				want = 1
			}
			if ended[pc] != want {
				t.Fatalf("what follows: %s: %d ends %d openers", told(code), pc, ended[pc])
			}
		}
	}
}

// TestOwners: the labels at a pc are the owner there, that one's own owner, and so on, to the body.
func TestOwners(t *testing.T) {
	r := rand.New(rand.NewSource(93))
	for range 1500 {
		code := drawn(r, 1+r.Intn(60), 1+r.Intn(32))
		_, _, owners, _, _ := control.Map(code)
		for pc := range code {
			want := []int{owners[pc]}
			for want[len(want)-1] != -1 {
				want = append(want, owners[want[len(want)-1]])
			}
			if l := control.Labels(code, pc); !slices.Equal(l, want) {
				t.Fatalf("what follows: Labels of %s at %d: %v, not %v", told(code), pc, l, want)
			}
		}
	}
}

// TestPlaces: each once, rising, behind pc 0 and no farther than the code's length.
func TestPlaces(t *testing.T) {
	r := rand.New(rand.NewSource(94))
	for range 1500 {
		code := drawn(r, 1+r.Intn(60), 1+r.Intn(32))
		for pc := range code {
			before := 0
			for _, place := range control.Next(code, pc) {
				if place <= before || place > len(code) {
					t.Fatalf("P9.3: Next of %s at %d: %v", told(code), pc, control.Next(code, pc))
				}
				before = place
			}
		}
	}
}

package instance_test

import (
	"math/rand"
	"testing"

	"flagon/api"
	"flagon/instance"
)

// filled: so many bytes, none of which is 0 and of which no two neighbours are alike.
func filled(count int) []byte {
	b := make([]byte, count)
	for at := range b {
		b[at] = byte(1 + at%251)
	}
	return b
}

// paged is a module of a memory with that data.
func paged(first, most int, data ...api.Data) api.Module {
	m := one(api.Sig{}, "")
	m.First, m.Most, m.Data = first, most, data
	return m
}

// lie: are there First pages of 4096 bytes, in which just these lie?
func lie(t *testing.T, m api.Module) {
	t.Helper()
	begins(t, m, "f")
	s, _ := instance.Begin(m, "f", nil)
	if len(s.Pages) != m.First {
		t.Fatalf("P21.2: %d pages, not %d", len(s.Pages), m.First)
	}
	for _, p := range s.Pages {
		if len(p) != size {
			t.Fatalf("P21.2: a page of %d bytes", len(p))
		}
	}
	for _, d := range m.Data {
		for n, b := range d.B {
			if at := d.At + n; s.Pages[at/size][at%size] != b {
				t.Fatalf("P21.2: at %d lies %d, not %d", at, s.Pages[at/size][at%size], b)
			}
		}
	}
}

// TestPages: as many as First says, whatever Most is; all of them noughts, where there is no data.
func TestPages(t *testing.T) {
	for _, first := range []int{0, 1, 2, 3, 31, 32, 63, 64} {
		for _, most := range []int{first, first + 1, 63, 64} {
			if most < first || most > 64 {
				continue
			}
			lie(t, paged(first, most))
			m := paged(first, most)
			m.Data = []api.Data{}
			lie(t, m)
		}
	}
}

// TestData: at a page's beginning, at its end, over its end, over several pages, at the memory's end, over all of it.
func TestData(t *testing.T) {
	for _, first := range []int{1, 2, 3, 5, 15, 64} {
		end := first * size
		for _, count := range []int{1, 2, 3, 8, 255, size - 1, size, size + 1, 2*size - 1, 2 * size, 2*size + 1, 3 * size, 5*size - 1, 15 * size} {
			for _, at := range []int{0, 1, 16, size - count, size - 2, size - 1, size, size + 1, 2*size - 1, 2 * size, 3*size - 1, end - count - 1, end - count} {
				if at >= 0 && at+count <= end {
					lie(t, paged(first, 64, api.Data{At: at, B: filled(count)}))
				}
			}
		}
	}
}

// TestNoughts: data whose bytes are 0, all of them or some, is laid as any other.
func TestNoughts(t *testing.T) {
	lie(t, paged(2, 2, api.Data{At: size - 2, B: make([]byte, 4)}))
	lie(t, paged(2, 2, api.Data{At: size - 2, B: []byte{0, 1, 0, 1}}, api.Data{At: size + 3, B: []byte{0, 255, 0}}))
}

// TestSeveral: data with one byte between, which stays 0; at pages' ends, too; as many as there may be.
func TestSeveral(t *testing.T) {
	for _, from := range []int{0, 1, size - 130, size - 65, size - 3, size - 2, size - 1, size, size + 1, 3*size - 200} {
		for _, count := range []int{1, 2, 3, 60} {
			m := paged(3, 3)
			at := from
			for len(m.Data) < most64 && at+count <= 3*size {
				m.Data = append(m.Data, api.Data{At: at, B: filled(count)})
				at += count + 1
			}
			lie(t, m)
			s, _ := instance.Begin(m, "f", nil)
			for _, d := range m.Data[:len(m.Data)-1] {
				if behind := d.At + count; s.Pages[behind/size][behind%size] != 0 {
					t.Fatalf("P21.2: something lies at %d, between two data", behind)
				}
			}
		}
	}
	lie(t, paged(2, 2, api.Data{At: 0, B: filled(size)}, api.Data{At: size + 1, B: filled(size - 1)}))
	lie(t, paged(2, 2, api.Data{At: 0, B: filled(size - 1)}, api.Data{At: size, B: filled(size)}))
	lie(t, paged(2, 2, api.Data{At: 0, B: filled(size + 1)}, api.Data{At: size + 2, B: filled(size - 2)}))
}

// TestFarData: one byte in each of the most pages, at its beginning and at its end.
func TestFarData(t *testing.T) {
	for _, place := range []int{0, 1, 2047, size - 1} {
		m := paged(64, 64)
		for k := range most64 {
			m.Data = append(m.Data, api.Data{At: k*size + place, B: []byte{byte(k + 1)}})
		}
		lie(t, m)
	}
}

// TestNoBytes: data without bytes may not be, wherever it says it lies.
func TestNoBytes(t *testing.T) {
	for _, at := range []int{0, 1, size - 1, size, 2 * size} {
		for _, b := range [][]byte{nil, {}, make([]byte, 0, 9)} {
			m := paged(2, 2, api.Data{At: at, B: b})
			unsigned(t, m, "f", api.ErrRange)
			refused(t, m, "f", nil, api.ErrRange)
		}
	}
}

// TestDrawnData: data anywhere.
func TestDrawnData(t *testing.T) {
	r := rand.New(rand.NewSource(211))
	for range 400 {
		m := paged(r.Intn(6), 6)
		at := r.Intn(3 * size)
		for len(m.Data) < 10 {
			b := filled([]int{1 + r.Intn(4), 1 + r.Intn(300), size - 2 + r.Intn(4), 1 + r.Intn(3*size)}[r.Intn(4)])
			if at+len(b) > m.First*size {
				break
			}
			m.Data = append(m.Data, api.Data{At: at, B: b})
			at += len(b) + 1 + r.Intn(200)*r.Intn(2)
		}
		lie(t, m)
	}
}

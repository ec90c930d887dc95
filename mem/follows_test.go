package mem_test

import (
	"bytes"
	"math/rand"
	"testing"

	"flagon/mem"
)

// drawnAddr: mostly at a border of pages or at the memory's end.
func drawnAddr(r *rand.Rand, pages int) uint64 {
	switch r.Intn(8) {
	case 0:
		return r.Uint64()
	case 1:
		return ^uint64(0) - uint64(r.Intn(12))
	case 2:
		return uint64(r.Intn(size*pages + 20))
	}
	return uint64(max(0, size*r.Intn(pages+1)+r.Intn(20)-10))
}

func drawnWidth(r *rand.Rand) int {
	if r.Intn(6) == 0 {
		return r.Intn(11) - 1
	}
	return 1 << r.Intn(4)
}

// act: one drawn call on both.
func act(t *testing.T, r *rand.Rand, m *mem.Memory, o *model) {
	t.Helper()
	switch pages := len(o.b) / size; r.Intn(20) {
	case 0:
		grows(t, m, o, uint64(r.Intn(3)))
	case 1:
		grows(t, m, o, r.Uint64()>>r.Intn(64))
	case 2:
		cleans(t, m, o)
	case 3, 4, 5, 6, 7, 8:
		loads(t, m, o, drawnAddr(r, pages), drawnWidth(r))
	default:
		stores(t, m, o, drawnAddr(r, pages), drawnWidth(r), r.Uint64())
	}
}

// TestDrawn: whatever calls come one behind the other, the memory answers as a row of bytes.
func TestDrawn(t *testing.T) {
	r := rand.New(rand.NewSource(131))
	for range 120 {
		most := r.Intn(9)
		m, o := bothFrom(t, r.Intn(most+1), most)
		for range 60 {
			act(t, r, m, o)
			hold(t, m, o)
		}
	}
}

// TestByteByByte: what was stored by one width is loaded by each other one, byte by byte and in parts.
func TestByteByByte(t *testing.T) {
	r := rand.New(rand.NewSource(132))
	for range 300 {
		m, o := bothFrom(t, 3, 3)
		addr := uint64(size*(1+r.Intn(2)) + r.Intn(24) - 12)
		for _, n := range []int{8, 4, 2, 1} {
			stores(t, m, o, addr+uint64(r.Intn(4)), n, r.Uint64())
		}
		for at := addr - 9; at < addr+18; at++ {
			for _, n := range []int{1, 2, 4, 8} {
				loads(t, m, o, at, n)
				v, _ := m.Load(at, n)
				for k := range n {
					if b, ok := m.Load(at+uint64(k), 1); !ok || b != v>>(8*k)%256 {
						t.Fatalf("P13.2: Load(%d, %d) is %x, but its byte %d %x", at, n, v, k, b)
					}
				}
			}
		}
		hold(t, m, o)
	}
}

// TestFromPages: a memory From the Pages of another one answers as it from there on, but for what is dirty.
func TestFromPages(t *testing.T) {
	r := rand.New(rand.NewSource(133))
	for range 60 {
		most := 1 + r.Intn(6)
		m, o := both(t, r.Intn(most+1), most)
		for range 30 {
			act(t, r, m, o)
		}
		second := madeFrom(t, m.Pages(), most)
		model := modelOf(o.b, most)
		hold(t, second, model)
		seed := r.Int63()
		one, two := rand.New(rand.NewSource(seed)), rand.New(rand.NewSource(seed))
		for range 40 {
			act(t, one, m, o)
			act(t, two, second, model)
		}
		hold(t, m, o)
		hold(t, second, model)
		if !bytes.Equal(o.b, model.b) {
			t.Fatal("the models differ")
		}
		cleans(t, m, o)
		cleans(t, second, model)
		stores(t, m, o, 0, 1, 1)
		stores(t, second, model, 0, 1, 1)
		hold(t, m, o)
		hold(t, second, model)
	}
}

// TestTwo: memories side by side, some From the same pages, know nothing of each other.
func TestTwo(t *testing.T) {
	r := rand.New(rand.NewSource(134))
	for range 30 {
		list := filled(3)
		joined := bytes.Join(list, nil)
		ms := []*mem.Memory{madeFrom(t, list, 5), madeFrom(t, list, 5), made(t, 3, 5), made(t, 3, 5)}
		models := []*model{modelOf(joined, 5), modelOf(joined, 5), modelOf(make([]byte, 3*size), 5), modelOf(make([]byte, 3*size), 5)}
		for range 40 {
			k := r.Intn(len(ms))
			act(t, r, ms[k], models[k])
			for at := range ms {
				hold(t, ms[at], models[at])
			}
		}
	}
}

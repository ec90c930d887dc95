package snap_test

import (
	"bytes"
	"math/rand"
	"slices"
	"testing"

	"flagon/api"
	"flagon/fast"
	"flagon/frame"
	"flagon/instance"
	"flagon/mem"
	"flagon/slow"
	"flagon/snap"
	"flagon/text"
)

// TestGreatest: how many bytes the greatest state takes; it is far below what Read looks at.
func TestGreatest(t *testing.T) {
	s := greatest()
	writes(t, s)
	b, _ := snap.Write(s)
	lists := 1 + 10*mostResults + 1 + 10*most64
	pages := 2 + most64*(1+size)
	frames := 1 + most64*(1+2+1+10*most64+2+10*mostStack)
	if len(b) != 5+1+1+9+9+lists+pages+frames || len(b) != 468142 {
		t.Errorf("what follows: the greatest state takes %d bytes", len(b))
	}
}

// deepest is a module that comes to as many frames as there may be, each with as many locals and as high a stack as may be.
func deepest() api.Module {
	m := api.Module{Types: []api.Sig{{}}, First: most64, Most: most64, Exports: []api.Export{{Name: "f"}}}
	for range most64 {
		m.Globals = append(m.Globals, api.Global{Letter: 'l', Mutable: true})
	}
	code := slices.Repeat([]api.Ins{{Op: 0x19, A: -1}}, mostStack)
	code = append(code, api.Ins{Op: 0x0b})
	code = append(code, slices.Repeat([]api.Ins{{Op: 0x10}}, mostStack)...)
	m.Functions = []api.Function{{Locals: string(bytes.Repeat([]byte("l"), most64)), Code: append(code, api.Ins{Op: 0x06})}}
	return m
}

// TestGreatestOfModule: the greatest state that may be, of some module, is written, and both engines go on from what is read.
func TestGreatestOfModule(t *testing.T) {
	m, s := deepest(), greatest()
	s.End, s.Trap, s.Results = 1, 0, nil
	for k := range s.Frames {
		s.Frames[k].Function, s.Frames[k].Pc = 0, mostStack
	}
	if e, place := frame.Check(m, s); e != api.OK {
		t.Fatalf("the state may not be: %d, %d", e, place)
	}
	writes(t, s)
	b, _ := snap.Write(s)
	got, _, _ := snap.Read(b)
	for _, fuel := range []int64{0, 1, 2} {
		one, e := slow.Run(m, nil, s, fuel)
		other, e2 := fast.Run(m, nil, got, fuel)
		if e != api.OK || e2 != api.OK || !frame.Equal(one, other) {
			t.Fatalf("W3: with fuel %d: %d, %d", fuel, e, e2)
		}
		writes(t, one)
	}
}

// TestDrawn: states that may be told are told, and read as themselves.
func TestDrawn(t *testing.T) {
	r := rand.New(rand.NewSource(221))
	for range 1500 {
		s := drawn(r)
		writes(t, s)
		if !agrees(t, raw(s)) {
			t.Fatalf("W3: %s is refused", told(s))
		}
	}
}

// TestOneForm: no two states have the same bytes.
func TestOneForm(t *testing.T) {
	seen := map[string]api.State{}
	r := rand.New(rand.NewSource(222))
	list := append(plain(), rich())
	for range 300 {
		list = append(list, drawn(r))
	}
	for _, s := range list {
		b, _ := snap.Write(s)
		if other, found := seen[string(b)]; found && !identical(s, other) {
			t.Fatalf("W3: %s and %s have the same bytes", told(s), told(other))
		}
		seen[string(b)] = s
	}
}

// TestTurned: single bytes turned, each into every other one; what is still read is written as just those bytes.
func TestTurned(t *testing.T) {
	small := rich()
	small.Pages = [][]byte{blank(), blank(), blank()}
	for _, s := range []api.State{small, {End: 1}, {End: 2, Results: some(8)}, {End: 1, Frames: []api.Frame{{Pc: 3, Stack: []uint64{300}}}, Pages: [][]byte{blank()}}} {
		b := raw(s)
		kept := 0
		for at := range b {
			for v := 1; v < 256; v++ {
				turned := bytes.Clone(b)
				turned[at] ^= byte(v)
				if agrees(t, turned) {
					kept++
				}
			}
		}
		if kept == 0 {
			t.Errorf("the turning is too thin: of %s no bytes are read", told(s))
		}
	}
}

// TestTurnedPages: of a state with pages, each byte outside of them, and some within.
func TestTurnedPages(t *testing.T) {
	ps := pieces(rich())
	whole := join(ps)
	for at, from := range starts(ps)[:len(ps)] {
		for n := range len(ps[at].b) {
			if ps[at].kind == body && n > 1 && n < size-2 && n%701 != 0 {
				continue
			}
			for _, v := range []byte{1, 2, 3, 4, 8, 16, 32, 64, 127, 128, 129, 254, 255} {
				b := bytes.Clone(whole)
				b[from+n] ^= v
				agrees(t, b)
			}
		}
	}
}

// TestLastByte: a page whose only byte is turned to 0 is one of noughts.
func TestLastByte(t *testing.T) {
	for _, at := range []int{0, 1, 2047, 2048, 4094, 4095} {
		b := pagesOf(1, 1, "\x00", string(page(at, 1)), "\x00")
		if !agrees(t, b) {
			t.Fatalf("P22.2: a byte at %d", at)
		}
		b[14+at] = 0
		fails(t, b, api.ErrLoose, 14, "the byte at %d turned to 0", at)
	}
}

// mangled: bytes with some of them turned, taken out, put in, or put somewhere else.
func mangled(r *rand.Rand, b []byte) []byte {
	b = bytes.Clone(b)
	for range 1 + r.Intn(3) {
		at := len(head) + r.Intn(len(b)-len(head)+1)
		if r.Intn(3) > 0 { // mostly outside of pages
			at = min(at, len(head)+r.Intn(30))
		}
		to := min(len(b), at+r.Intn(4))
		switch r.Intn(4) {
		case 0:
			b = slices.Delete(b, at, to)
		case 1:
			b = slices.Insert(b, at, []byte{0, 1, 2, 128, 129, 255, byte(r.Intn(256))}[r.Intn(7)])
		case 2:
			b = slices.Insert(b, at, bytes.Clone(b[at:to])...)
		default:
			for k := at; k < to; k++ {
				b[k] = []byte{0, 1, 63, 64, 65, 127, 128, byte(r.Intn(256))}[r.Intn(8)]
			}
		}
	}
	return b
}

// TestMangled: bytes of drawn states, mangled: both readers answer alike.
func TestMangled(t *testing.T) {
	r := rand.New(rand.NewSource(223))
	kept, refused := 0, 0
	for range 1200 {
		b := raw(drawn(r))
		for range 12 {
			if agrees(t, mangled(r, b)) {
				kept++
			} else {
				refused++
			}
		}
	}
	if kept < 500 || refused < 5000 {
		t.Errorf("the drawing is too thin: %d read, %d refused", kept, refused)
	}
}

// TestNoise: drawn bytes behind the five.
func TestNoise(t *testing.T) {
	r := rand.New(rand.NewSource(224))
	kept := 0
	for range 200000 {
		b := []byte(head + "\x01\x00")
		for range r.Intn(20) {
			b = append(b, []byte{0, 0, 0, 1, 2, byte(r.Intn(256))}[r.Intn(6)])
		}
		if agrees(t, b) {
			kept++
		}
	}
	if kept < 100 {
		t.Errorf("the drawing is too thin: %d read", kept)
	}
}

// reached: programs whose every state is written, and how they begin.
func reached() []string {
	return []string{
		"flagon\ntype - -> w\nmemory 1 2\nfunc 0 -\n  w.const 5\n  end\nexport main 0\n",
		"flagon\ntype - -> -\ntype - -> w\nmemory 0 0\nfunc 1 w\n  w.const 30\n  set 0\n  loop 0\n    get 0\n    w.const 1\n    w.sub\n    tee 0\n    brif 0\n  end\n  w.const 7\n  end\nexport main 0\n",
		"flagon\ntype l -> l\ntype - -> l\nmemory 0 0\nfunc 0 -\n  get 0\n  l.eqz\n  if 1\n    l.const 1\n  else\n    get 0\n    get 0\n    l.const 1\n    l.sub\n    call 0\n    l.mul\n  end\n  end\nfunc 1 -\n  l.const 12\n  call 0\n  end\nexport main 1\n",
		"flagon\ntype - -> w\nglobal l var -1\nglobal w const 7\nmemory 1 64\nfunc 0 -\n  w.const 4090\n  w.const -2\n  w.store 4\n  w.const 2\n  grow\n  drop\n  w.const 8190\n  l.const -1\n  l.store 0\n  w.const 4094\n  w.const 0\n  w.store 0\n  w.const 1\n  grow\n  end\ndata 16 07ff\nexport main 0\n",
		"flagon\ntype - -> w\nmemory 0 0\nfunc 0 -\n  call 0\n  end\nexport main 0\n",
		"flagon\ntype w -> w\ntype - -> w\nextern 0\nmemory 0 0\nfunc 1 -\n  w.const 1\n  host 0\n  host 0\n  host 0\n  end\nexport main 0\n",
		"flagon\ntype - -> w\nmemory 0 0\nfunc 0 -\n  w.const 7\n  w.const 0\n  w.divs\n  end\nexport main 0\n",
	}
}

// TestReached: of every state that is reached what is written is read as itself; from there either engine goes on to the same state.
func TestReached(t *testing.T) {
	script := []api.Reply{{Results: []uint64{5}}, {Results: []uint64{6}}}
	for _, source := range reached() {
		m, e, line := text.Parse(source)
		if e != api.OK {
			t.Fatalf("%q: %d in line %d", source, e, line)
		}
		s, e := instance.Begin(m, "main", nil)
		for e == api.OK && s.End == 1 {
			writes(t, s)
			b, _ := snap.Write(s)
			read, _, _ := snap.Read(b)
			if e, place := frame.Check(m, read); e != api.OK || !frame.Equal(read, s) {
				t.Fatalf("W3: %s: %d, %d", told(read), e, place)
			}
			var other api.State
			other, _ = fast.Run(m, script, read, 1)
			s, e = slow.Run(m, script, s, 1)
			if !frame.Equal(other, s) {
				t.Fatalf("W3: %s, not %s", told(other), told(s))
			}
		}
		if e != api.OK || s.Used < 2 {
			t.Fatalf("%q: %d, %s", source, e, told(s))
		}
		writes(t, s)
	}
}

// TestPagesOfMemory: what mem tells of its pages is written, and what is read makes such a memory again.
func TestPagesOfMemory(t *testing.T) {
	m, _ := mem.New(3, 5)
	m.Store(4095, 2, 0x0102)
	m.Grow(2)
	m.Store(5*size-1, 1, 9)
	s := api.State{End: 1, Pages: m.Pages()}
	writes(t, s)
	b, _ := snap.Write(s)
	if len(b) != len(head)+9+3*(1+size) {
		t.Errorf("W3: %d bytes for three full pages of five", len(b))
	}
	read, _, _ := snap.Read(b)
	again, e := mem.From(read.Pages, 5)
	if v, ok := again.Load(4095, 2); e != api.OK || !ok || v != 0x0102 || again.Size() != 5 {
		t.Errorf("W3: %d, %d, %t, %d", e, v, ok, again.Size())
	}
}

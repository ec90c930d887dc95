package session_test

import (
	"bytes"
	"fmt"
	"math/rand"
	"strings"
	"testing"

	"flagon/api"
	"flagon/module"
	"flagon/text"
)

// loaded: does Load of a new session answer that? It has no module then, if that is an error.
func loaded(t *testing.T, b []byte, e api.Errno, at, pc int) {
	t.Helper()
	s := fresh(t)
	if got, line, place := s.Load(b); got != e || line != at || place != pc {
		t.Errorf("P29.1: Load(% x): %d at %d, %d, not %d at %d, %d", b[:min(len(b), 40)], got, line, place, e, at, pc)
	}
	if e != api.OK {
		bare(t, s)
	}
}

// texted: likewise of Text.
func texted(t *testing.T, source string, e api.Errno, at, pc int) {
	t.Helper()
	s := fresh(t)
	if got, line, place := s.Text(source); got != e || line != at || place != pc {
		t.Errorf("P29.1: Text(%q): %d at %d, %d, not %d at %d, %d", source[:min(len(source), 40)], got, line, place, e, at, pc)
	}
	if e != api.OK {
		bare(t, s)
	}
}

// TestLoadNone: of bytes that are no module the error, its place, and 0.
func TestLoadNone(t *testing.T) {
	const head = "FLGN\x01"
	for _, x := range []struct {
		b  string
		e  api.Errno
		at int
	}{
		{"", api.ErrMagic, 0},
		{"F", api.ErrMagic, 0},
		{"FLGN", api.ErrMagic, 0},
		{"FLGN\x02", api.ErrMagic, 0},
		{"FSNP\x01", api.ErrMagic, 0},
		{"flagon\nmemory 0 0\n", api.ErrMagic, 0},
		{head, api.ErrEnd, 5},
		{head + "\x00\x00\x00", api.ErrEnd, 8},
		{head + "\x80\x00", api.ErrLoose, 5},
		{head + "\x41", api.ErrMany, 5},
		{head + "\x01\x01\x78\x00", api.ErrType, 6},
		{head + "\x01\x09wwwwwwwww\x00", api.ErrLong, 6},
		{head + "\x02\x00\x00\x00\x00", api.ErrTwice, 8},
		{head + "\x00\x01\x00", api.ErrIndex, 7},
		{head + "\x00\x00\x00\x01\x00", api.ErrRange, 9},
		{head + "\x00\x00\x00\x00\x00\x00\x00\x00\x00", api.ErrRest, 13},
		{head + "\x01\x00\x00\x00\x00\x00\x00\x01\x00\x00\x01\xff", api.ErrOp, 16},
		{head + "\x01\x00\x00\x00\x00\x00\x00\x01\x00\x00\x01\x06\x00\x01\x01 \x00", api.ErrName, 19},
		{head + strings.Repeat("\x00", 65536-5), api.ErrRest, 13},
		{head + strings.Repeat("\x00", 65536-4), api.ErrLong, 0},
	} {
		loaded(t, []byte(x.b), x.e, x.at, 0)
	}
}

// TestTextNone: of a text that cannot be read the error, the line, and 0.
func TestTextNone(t *testing.T) {
	for _, x := range []struct {
		source string
		e      api.Errno
		line   int
	}{
		{"", api.ErrWord, 1},
		{"memory 0 0", api.ErrWord, 1},
		{"FLGN\x01", api.ErrWord, 1},
		{"flagon\n", api.ErrWord, 2},
		{"flagon\nmemory 0 0\nget 0", api.ErrWord, 3},
		{"flagon\nmemory 0 0\nextern 0", api.ErrWord, 3},
		{"flagon\nmemory 0 00", api.ErrWord, 2},
		{"flagon\nglobal w var 2147483648\nmemory 0 0", api.ErrWord, 2},
		{"flagon\ntype - -> w\nmemory 0 0\nfunc 0 -\n\n; x\n  nix\n  end\n", api.ErrWord, 7},
		{"flagon\nmemory 1 0", api.ErrRange, 0},
		{"flagon\ntype w -> -\ntype w -> -\nmemory 0 0", api.ErrTwice, 0},
		{"flagon\nmemory 0 0\nfunc 0 -\nend", api.ErrIndex, 0},
		{"flagon\ntype - -> -\nmemory 0 0\nfunc 0 -\nend\nexport b 0\nexport a 0", api.ErrOrder, 0},
		{"flagon\nmemory 0 0\n;" + strings.Repeat("x", 1<<20-18), api.ErrLong, 0},
	} {
		texted(t, x.source, x.e, x.line, 0)
	}
	texted(t, "flagon\nmemory 0 0\n;"+strings.Repeat("x", 1<<20-19), api.OK, 0, 0)
}

// unfit are codes of a function - -> w that may not run: the error, and its pc.
func unfit() []struct {
	code string
	e    api.Errno
	pc   int
} {
	return []struct {
		code string
		e    api.Errno
		pc   int
	}{
		{"", api.ErrCut, 0},
		{"w.const:1", api.ErrCut, 1},
		{"w.const:1 end end", api.ErrRest, 2},
		{"w.const:1 else end", api.ErrElse, 1},
		{"end", api.ErrStack, 0},
		{"l.const:1 end", api.ErrStack, 1},
		{"w.const:1 w.const:1 end", api.ErrStack, 2},
		{"w.const:1 block:> drop end end", api.ErrStack, 2},
		{"l.const:1 w.const:1 w.const:0 select end", api.ErrStack, 3},
		{"trap nop end", api.ErrDead, 1},
		{"w.const:1 if:>w w.const:2 end end", api.ErrElse, 3},
		{"nop br:1 end", api.ErrLabel, 1},
		{"nop*3 call:9 end", api.ErrIndex, 3},
		{"nop*200 host:0 end", api.ErrIndex, 200},
		{"get:0 end", api.ErrIndex, 0},
		{"gget:2 end", api.ErrIndex, 0},
		{"w.const:1 gset:1 w.const:1 end", api.ErrMutable, 1},
		{"w.const:1*257 end", api.ErrHigh, 256},
		{strings.Repeat("block:> ", 33) + strings.Repeat("end ", 33) + "w.const:1 end", api.ErrDeep, 32},
		{"block:>w block:> w.const:1 w.const:0 brtable:0,1 end w.const:1 end end", api.ErrLabels, 4},
	}
}

// unfits is a module whose functions are fit, but for that one.
func unfits(function int, code string) api.Module {
	m := api.Module{Globals: []api.Global{{Letter: 'w', Mutable: true}, {Letter: 'w'}}}
	for range function {
		put(&m, ">w", "", "w.const:5 end")
	}
	put(&m, ">w", "", code)
	put(&m, ">w", "", "end")
	return m
}

// TestUnfit: of a module that may not run the error, the first function that is at fault, and the pc; of Load as of Text.
func TestUnfit(t *testing.T) {
	for _, x := range unfit() {
		for _, function := range []int{0, 1, 7} {
			m := unfits(function, x.code)
			source, e := text.Print(m)
			if e != api.OK {
				t.Fatalf("P6.1: %d", e)
			}
			loaded(t, octets(t, m), x.e, function, x.pc)
			texted(t, source, x.e, function, x.pc)
		}
	}
}

// standing are pairs of each stage: new, with a script, with a module, with a run that stands at its beginning, on its way, at its end.
func standing(t *testing.T) []*pair {
	t.Helper()
	list := []*pair{paired(t), paired(t)}
	list[1].reply(t, values(1, 2))
	x := small{named(rich()), []api.Reply{{}, {Results: []uint64{5}}}, begun(rich(), 7), 22}
	for steps := -1; steps < 24; steps++ {
		p := paired(t)
		p.load(t, octets(t, x.m))
		p.reply(t, x.script)
		if steps >= 0 {
			p.begin(t, "f0", []uint64{7})
			p.run(t, byFast, int64(steps))
		}
		list = append(list, p)
	}
	return list
}

// goesOn: a session goes on with the script that it is meant to have.
func (p *pair) goesOn(t *testing.T) {
	t.Helper()
	p.run(t, bySlow, 4)
	p.run(t, byFast, 100)
	p.begin(t, "f0", []uint64{7})
	p.run(t, byFast, 100)
}

// TestRefusedStays: a Load or Text that is refused leaves the module, the script and the state as they were, at whatever stage.
func TestRefusedStays(t *testing.T) {
	for _, p := range standing(t) {
		for _, b := range []string{"", "FLGN", "FLGN\x01", "FLGN\x01\x01\x01\x78\x00"} {
			if e := p.load(t, []byte(b)); e == api.OK {
				t.Errorf("P29.1: %q is a module", b)
			}
		}
		for _, source := range []string{"", "flagon", "flagon\nmemory 1 0"} {
			if e := p.text(t, source); e == api.OK {
				t.Errorf("P29.1: %q is a module", source)
			}
		}
		for _, x := range unfit() {
			m := unfits(1, x.code)
			source, _ := text.Print(m)
			if p.load(t, octets(t, m)) != x.e || p.text(t, source) != x.e {
				t.Errorf("P29.1: %s", x.code)
			}
		}
		p.goesOn(t)
	}
}

// TestAcceptedTakesAway: a Load or Text that is accepted empties the script and takes the state away, at whatever stage, even of the same module.
func TestAcceptedTakesAway(t *testing.T) {
	for _, m := range []api.Module{named(rich()), {}, named(of("w>w", "", "get:0 end"))} {
		source, _ := text.Print(m)
		for _, p := range standing(t) {
			p.load(t, octets(t, m))
			none(t, p.session)
			p.goesOn(t)
		}
		for _, p := range standing(t) {
			p.text(t, source)
			none(t, p.session)
			p.goesOn(t)
		}
	}
}

// TestTurnedBytes: of a module's bytes each beginning, and each byte turned: what is no module, or may not run, is refused as the layers below do, and leaves what was there.
func TestTurnedBytes(t *testing.T) {
	r := rand.New(rand.NewSource(291))
	p := paired(t)
	errs := map[api.Errno]int{}
	for _, m := range []api.Module{named(rich()), named(of("l>l", "", "get:0 l.eqz if:>l l.const:1 else get:0 get:0 l.const:1 l.sub call:0 l.mul end end"))} {
		b := octets(t, m)
		for at := range b {
			errs[p.load(t, b[:at])]++
			for _, turned := range []byte{b[at] + 1, b[at] - 1, b[at] ^ 128, byte(r.Intn(256))} {
				other := bytes.Clone(b)
				other[at] = turned
				if e := p.load(t, other); e == api.OK {
					p.reply(t, values(uint64(at)))
				} else {
					errs[e]++
				}
			}
		}
		p.load(t, b)
		p.goesOn(t)
	}
	if len(errs) < 15 {
		t.Errorf("the errors are %v", errs)
	}
}

// TestTurnedTexts: likewise of a module's text, of which lines are left out, doubled, put elsewhere, or a byte is turned.
func TestTurnedTexts(t *testing.T) {
	r := rand.New(rand.NewSource(292))
	p := paired(t)
	errs := map[api.Errno]int{}
	source, _ := text.Print(named(rich()))
	lines := strings.SplitAfter(source, "\n")
	for round := range 600 {
		at, to := r.Intn(len(lines)), r.Intn(len(lines))
		other := append([]string(nil), lines...)
		switch round % 4 {
		case 0:
			other[at] = ""
		case 1:
			other[at] += other[at]
		case 2:
			other[at], other[to] = other[to], other[at]
		default:
			b := []byte(other[at] + " ")
			b[r.Intn(len(b))] = "0129 wl-.f\n"[r.Intn(11)]
			other[at] = string(b)
		}
		errs[p.text(t, strings.Join(other, ""))]++
		if round%50 == 0 {
			p.text(t, source)
			p.goesOn(t)
		}
	}
	if len(errs) < 6 || errs[api.OK] < 20 {
		t.Errorf("the errors are %v", errs)
	}
}

// TestDrawnModules: drawn modules by their bytes and by their texts: the session has them, and tells them as they are.
func TestDrawnModules(t *testing.T) {
	r := rand.New(rand.NewSource(293))
	p := paired(t)
	for range 200 {
		m := named(drawnModule(r))
		b := octets(t, m)
		if e := p.load(t, b); e != api.OK {
			t.Fatalf("P29.1: %d", e)
		}
		if got, e := p.session.Bytes(); e != api.OK || !bytes.Equal(got, b) {
			t.Fatalf("P29.2: what Load was handed is not what Bytes tells: %d", e)
		}
		source, e := p.session.Source()
		if e != api.OK {
			t.Fatalf("P29.2: %d", e)
		}
		if e := p.text(t, "; again\n\n"+strings.ReplaceAll(source, " ", "  ")); e != api.OK {
			t.Fatalf("P29.1: %d", e)
		}
		got, e := p.session.Bytes()
		if again, e2 := p.session.Source(); e != api.OK || e2 != api.OK || !bytes.Equal(got, b) || again != source {
			t.Fatalf("P29.2: what Source tells is read as another module: %d, %d", e, e2)
		}
	}
}

// TestGreatestModule: one of nearly as many bytes as may be.
func TestGreatestModule(t *testing.T) {
	m := of(">", "", "end")
	m.First, m.Most = 16, 16
	m.Data = []api.Data{{B: bytes.Repeat([]byte{1}, 65536-27)}}
	m = named(m)
	b := octets(t, m)
	if len(b) != api.MaxModule {
		t.Fatalf("%d bytes", len(b))
	}
	p := paired(t)
	p.load(t, b)
	p.begin(t, "f0", nil)
	m.Data[0].B = append(m.Data[0].B, 1)
	if _, e := module.Encode(m); e != api.ErrLong {
		t.Fatalf("P5.1: %d", e)
	}
	if e := p.load(t, append(b, 0)); e != api.ErrLong {
		t.Errorf("P29.1: %d", e)
	}
	source := fmt.Sprintf("flagon\ntype - -> -\nmemory 16 16\nfunc 0 -\n  end\ndata 0 %x\nexport f0 0\n", m.Data[0].B)
	if e := p.text(t, source); e != api.ErrLong {
		t.Errorf("P29.1: %d", e)
	}
	p.run(t, byFast, 1)
}

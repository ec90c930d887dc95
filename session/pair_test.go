package session_test

import (
	"bytes"
	"testing"

	"flagon/api"
	"flagon/instance"
	"flagon/meter"
	"flagon/module"
	"flagon/resume"
	"flagon/session"
	"flagon/snap"
	"flagon/step"
	"flagon/text"
	"flagon/validate"
)

// raw is a state as chapter 22 has its bytes, whether it may be or not: so also bytes that must be refused are made of it.
func raw(s api.State) []byte {
	b := append([]byte("FSNP\x01"), byte(s.End), byte(s.Trap))
	number := func(v uint64) {
		for ; v >= 128; v /= 128 {
			b = append(b, byte(v%128+128))
		}
		b = append(b, byte(v))
	}
	list := func(values []uint64) {
		number(uint64(len(values)))
		for _, v := range values {
			number(v)
		}
	}
	number(uint64(s.Used))
	number(uint64(s.Replies))
	list(s.Results)
	list(s.Globals)
	number(uint64(len(s.Pages)))
	isBlank := func(p []byte) bool { return bytes.Count(p, []byte{0}) == len(p) }
	count := uint64(0)
	for _, p := range s.Pages {
		if !isBlank(p) {
			count++
		}
	}
	number(count)
	for at, p := range s.Pages {
		if !isBlank(p) {
			number(uint64(at))
			b = append(b, p...)
		}
	}
	number(uint64(len(s.Frames)))
	for _, f := range s.Frames {
		number(uint64(f.Function))
		number(uint64(f.Pc))
		list(f.Locals)
		list(f.Stack)
	}
	return b
}

// pair is a session, and what it is meant to have: a module that may run, or none; a script; a state, or none.
type pair struct {
	session *session.Session
	module  *api.Module
	script  []api.Reply
	state   *api.State
}

func paired(t *testing.T) *pair {
	t.Helper()
	p := &pair{session: fresh(t)}
	p.agrees(t)
	return p
}

// agrees: does the session have what it is meant to?
func (p *pair) agrees(t *testing.T) {
	t.Helper()
	if p.module == nil {
		bare(t, p.session)
		return
	}
	source, _ := text.Print(*p.module)
	if got, e := p.session.Source(); e != api.OK || got != source {
		t.Fatalf("P29.2: %d, %q, not %q", e, got, source)
	}
	b, _ := module.Encode(*p.module)
	if got, e := p.session.Bytes(); e != api.OK || !bytes.Equal(got, b) {
		t.Fatalf("P29.2: %d, % x, not % x", e, got, b)
	}
	if p.state == nil {
		none(t, p.session)
		return
	}
	if got := state(t, p.session); !identical(got, *p.state) {
		t.Fatalf("P29.7: %s, not %s", show(got), show(*p.state))
	}
	if got := saves(t, p.session); !bytes.Equal(got, raw(*p.state)) {
		t.Fatalf("P29.6: Save of %s: % x", show(*p.state), got)
	}
}

// take: what is a session to answer of a module that was read so, and to have then?
func (p *pair) take(m api.Module, e api.Errno, at int) (api.Errno, int, int) {
	pc := 0
	if e == api.OK {
		_, e, at, pc = validate.Module(m)
	}
	if e == api.OK {
		p.module, p.script, p.state = &m, nil, nil
	}
	return e, at, pc
}

func (p *pair) load(t *testing.T, b []byte) api.Errno {
	t.Helper()
	want, line, place := p.take(module.Decode(b))
	if e, at, pc := p.session.Load(b); e != want || at != line || pc != place {
		t.Fatalf("P29.1: Load(% x): %d at %d, %d, not %d at %d, %d", b[:min(len(b), 99)], e, at, pc, want, line, place)
	}
	p.agrees(t)
	return want
}

func (p *pair) text(t *testing.T, source string) api.Errno {
	t.Helper()
	want, line, place := p.take(text.Parse(source))
	if e, at, pc := p.session.Text(source); e != want || at != line || pc != place {
		t.Fatalf("P29.1: Text(%q): %d at %d, %d, not %d at %d, %d", source[:min(len(source), 99)], e, at, pc, want, line, place)
	}
	p.agrees(t)
	return want
}

func (p *pair) reply(t *testing.T, script []api.Reply) {
	t.Helper()
	scripts(t, p.session, script...)
	p.script = script
	p.agrees(t)
}

func (p *pair) begin(t *testing.T, export string, args []uint64) api.Errno {
	t.Helper()
	want := api.Errno(api.ErrNone)
	if p.module != nil {
		var s api.State
		if s, want = instance.Begin(*p.module, export, args); want == api.OK {
			p.state = &s
		}
	}
	if e := p.session.Begin(export, args); e != want {
		t.Fatalf("P29.4: Begin(%q, %d): %d, not %d", export, args, e, want)
	}
	p.agrees(t)
	return want
}

func (p *pair) run(t *testing.T, engine int8, fuel int64) api.Errno {
	t.Helper()
	want, counts := api.Errno(api.ErrNone), meter.Counts{}
	if p.state != nil {
		_, counts, want = meter.Run(engine, *p.module, p.script, *p.state, fuel)
	}
	if want == api.OK {
		s, e := step.Steps(*p.module, p.script, *p.state, int(fuel))
		if e != api.OK {
			t.Fatalf("P16.2: %d", e)
		}
		p.state = &s
	} else {
		counts = meter.Counts{}
	}
	if c, e := p.session.Run(engine, fuel); e != want || c != counts {
		t.Fatalf("P29.5: Run(%d, %d): %d, %v, not %d, %v", engine, fuel, e, c, want, counts)
	}
	p.agrees(t)
	return want
}

func (p *pair) restore(t *testing.T, b []byte) api.Errno {
	t.Helper()
	want, place := api.Errno(api.ErrNone), 0
	if p.module != nil {
		var s api.State
		if _, want, place = resume.Read(*p.module, b); want == api.OK {
			s, _, _ = snap.Read(b)
			p.state = &s
		}
	}
	if e, at := p.session.Restore(b); e != want || at != place {
		t.Fatalf("P29.6: Restore(% x): %d at %d, not %d at %d", b[:min(len(b), 99)], e, at, want, place)
	}
	p.agrees(t)
	return want
}

// set: the pair has that module and that script, and stands in that state.
func (p *pair) set(t *testing.T, x small) {
	t.Helper()
	if e := p.load(t, octets(t, x.m)); e != api.OK {
		t.Fatalf("P29.1: %d", e)
	}
	p.reply(t, x.script)
	if e := p.restore(t, raw(x.s)); e != api.OK {
		t.Fatalf("P29.6: %d", e)
	}
}

package play_test

import (
	"bytes"
	"encoding/hex"
	"fmt"
	"math"
	"slices"
	"strings"
	"testing"

	"flagon/api"
	"flagon/module"
	"flagon/play"
	"flagon/text"
)

// The limits and numbers of the document, told once more here so that those of the program are tested, too.
const (
	suspended = 1
	halted    = 2
	trapped   = 3
	size      = 4096
	most64    = 64
	high      = 1 << 32 // the least number that is no w
	mostUsed  = 1 << 62

	trapMemory = 2

	misfit = "error 50"
)

// edges are numbers at the ends of both letters' ranges.
func edges() []uint64 {
	return []uint64{0, 1, 2, 7, 31, 32, 33, 63, 64, 1<<31 - 1, 1 << 31, 1<<31 + 1, high - 2, high - 1, high, high + 1, math.MaxInt64, 1 << 63, 1<<63 + 1, math.MaxUint64 - 1, math.MaxUint64}
}

func cloned(s api.State) api.State {
	s.Results, s.Globals, s.Pages, s.Frames = slices.Clone(s.Results), slices.Clone(s.Globals), slices.Clone(s.Pages), slices.Clone(s.Frames)
	for at := range s.Pages {
		s.Pages[at] = slices.Clone(s.Pages[at])
	}
	for at := range s.Frames {
		f := &s.Frames[at]
		f.Locals, f.Stack = slices.Clone(f.Locals), slices.Clone(f.Stack)
	}
	return s
}

func sameFrame(a, b api.Frame) bool {
	return a.Function == b.Function && a.Pc == b.Pc && slices.Equal(a.Locals, b.Locals) && slices.Equal(a.Stack, b.Stack)
}

// identical: frame.Equal, said without the program.
func identical(a, b api.State) bool {
	return a.End == b.End && a.Trap == b.Trap && a.Used == b.Used && a.Replies == b.Replies && slices.Equal(a.Results, b.Results) &&
		slices.Equal(a.Globals, b.Globals) && slices.EqualFunc(a.Pages, b.Pages, bytes.Equal) && slices.EqualFunc(a.Frames, b.Frames, sameFrame)
}

// small is a run that ends behind so many steps, or is looked at for so many of them.
type small struct {
	m      api.Module
	script []api.Reply
	s      api.State
	steps  int
}

// smalls are short runs of each kind: halting, trapping, endless; with calls, hosts, a memory.
func smalls() []small {
	five := paged(1, 2, ">w", "", "w.const:5 end")
	loop := of("w>w", "", "loop:> get:0 w.const:1 w.sub tee:0 brif:0 end w.const:7 end")
	fact := of("l>l", "", "get:0 l.eqz if:>l l.const:1 else get:0 get:0 l.const:1 l.sub call:0 l.mul end end")
	round := paged(0, 3, ">", "", "loop:> w.const:1 grow drop w.const:4095 w.const:9 w.store8 br:0 end end")
	trap := of(">w", "", "w.const:1 w.const:0 w.divs end")
	endless := of(">", "", "call:0 end")
	return []small{
		{five, nil, begun(five), 2},
		{loop, nil, begun(loop, 3), 19},
		{fact, nil, begun(fact, 3), 40},
		{round, nil, begun(round), 30},
		{trap, nil, begun(trap), 3},
		{endless, nil, begun(endless), 64},
		{rich(), []api.Reply{{}, {Results: []uint64{5}}}, begun(rich(), 7), 22},
		{rich(), []api.Reply{{}, {Trap: true}}, begun(rich(), 7), 16},
		{rich(), nil, begun(rich(), 7), 13},
		{rich(), nil, deep(), 9},
	}
}

// runs are all that are gone through here.
func runs() []small {
	return append(smalls(), segmented()...)
}

// rich is a module of two functions, with hosts, globals of each kind and a memory.
func rich() api.Module {
	m := api.Module{First: 1, Most: 3, Globals: []api.Global{{Letter: 'w', Mutable: true, Value: 5}, {Letter: 'l', Value: math.MaxUint64}, {Letter: 'l', Mutable: true, Value: 9}}}
	m.Hosts = []int{kind(&m, "w>l"), kind(&m, ">")}
	put(&m, "w>wl", "l", "get:0 call:1 host:0 set:1 get:0 w.const:1 w.add get:1 end")
	put(&m, "w>w", "", "get:0 gget:2 gset:2 gset:0 w.const:16 l.const:-2 l.store:4 w.const:1 grow drop host:1 gget:0 end")
	return m
}

// deep is a state of rich in which function 0 has called function 1.
func deep() api.State {
	return api.State{
		Frames:  []api.Frame{{Pc: 1, Locals: []uint64{3, 4}}, {Function: 1, Pc: 2, Locals: []uint64{7}, Stack: []uint64{7, 8}}},
		Globals: []uint64{high - 1, math.MaxUint64, 1 << 63},
		Pages:   blank(2),
		Replies: 2,
		End:     suspended,
		Used:    77,
	}
}

// ended is a state of rich that has ended so.
func ended(end int8) api.State {
	s := deep()
	s.Frames, s.End = nil, end
	if end == trapped {
		s.Trap = trapMemory
	} else {
		s.Results = []uint64{math.MaxUint64, 0}
	}
	return s
}

// named is the same module, each of whose functions is exported by f and its number.
func named(m api.Module) api.Module {
	m.Exports = nil
	for at := range m.Functions {
		m.Exports = append(m.Exports, api.Export{Name: fmt.Sprint("f", at), Function: at})
	}
	return m
}

// octets: module.Encode where it may not refuse, as hex.
func octets(t *testing.T, m api.Module) string {
	t.Helper()
	b, e := module.Encode(m)
	if e != api.OK {
		t.Fatalf("P5.2: %d", e)
	}
	return hex.EncodeToString(b)
}

// source: text.Print where it may not refuse, as a quoted word.
func source(t *testing.T, m api.Module) string {
	t.Helper()
	s, e := text.Print(m)
	if e != api.OK {
		t.Fatalf("P6.1: %d", e)
	}
	return quotedWord(s)
}

// quotedWord is the quoted word that says s.
func quotedWord(s string) string {
	return `"` + strings.NewReplacer("\n", `\n`, `"`, `\"`, `\`, `\\`).Replace(s) + `"`
}

// fresh is a new play.
func fresh(t *testing.T) *play.Play {
	t.Helper()
	p := play.New()
	if p == nil {
		t.Fatal("New: none")
	}
	return p
}

// tells: does p tell these lines of that one?
func tells(t *testing.T, p *play.Play, line string, want ...string) {
	t.Helper()
	if got := p.Do(line); !slices.Equal(got, want) {
		t.Errorf("P30.2: of %.150q: %.300q, not %.300q", line, got, want)
	}
}

// quiet does lines that tell nothing.
func quiet(t *testing.T, p *play.Play, lines ...string) {
	t.Helper()
	for _, line := range lines {
		tells(t, p, line)
	}
}

// five is the text of a module whose export main halts with 5 behind two steps.
const five = `text "flagon\ntype - -> w\nmemory 0 0\nfunc 0 -\n  w.const 5\n  end\nexport main 0\n"`

// ready is a play of that module, begun.
func ready(t *testing.T) *play.Play {
	t.Helper()
	p := fresh(t)
	quiet(t, p, five, "begin main")
	return p
}

// stands: is that the state, its lines with slashes between?
func stands(t *testing.T, p *play.Play, want string) {
	t.Helper()
	tells(t, p, "state", strings.Split(want, " / ")...)
}

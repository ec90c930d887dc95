package text_test

import (
	"math/rand"
	"slices"
	"strings"
	"testing"

	"flagon/api"
	"flagon/text"
)

// thereAndBack: what is printed is read as just this module, and printed as the same.
func thereAndBack(t *testing.T, m api.Module) {
	t.Helper()
	s, e := text.Print(m)
	if e != api.OK {
		t.Fatalf("W8: Print of %v: %d", m, e)
	}
	taken(t, "W8", s, m)
	back, _, _ := text.Parse(s)
	if again, e := text.Print(back); again != s || e != api.OK {
		t.Errorf("W8: printed again: %q, not %q; %d", again, s, e)
	}
}

func TestThereAndBack(t *testing.T) {
	thereAndBack(t, api.Module{})
	thereAndBack(t, exampleModule())
	thereAndBack(t, rich())
	r := rand.New(rand.NewSource(63))
	for range 2000 {
		thereAndBack(t, someModule(r))
	}
}

// TestThereAndBackAtTheLimits: as many of each as there may be.
func TestThereAndBackAtTheLimits(t *testing.T) {
	m := api.Module{First: 64, Most: 64}
	for i := range api.MaxTypes {
		m.Types = append(m.Types, api.Sig{Params: strings.Repeat("w", i%8), Results: strings.Repeat("l", i/8)})
	}
	for i := range api.MaxHosts {
		m.Hosts = append(m.Hosts, 2*i)
	}
	for i := range api.MaxGlobal {
		x := api.Global{Letter: 'l', Mutable: i%3 == 0, Value: 1 << i}
		if i < 32 {
			x.Letter = 'w'
		}
		m.Globals = append(m.Globals, x)
	}
	for i := range api.MaxFuncs {
		f := api.Function{Locals: strings.Repeat("lw", 32)}
		if i < 8 {
			f.Code = slices.Repeat([]api.Ins{{Op: 0x71}}, api.MaxCode)
		}
		m.Functions = append(m.Functions, f)
	}
	for i := range api.MaxData {
		m.Data = append(m.Data, api.Data{At: 4096 * i, B: make([]byte, 400)})
	}
	for i := range api.MaxExport {
		m.Exports = append(m.Exports, api.Export{Name: strings.Repeat(string(rune('!'+i)), 31) + "~", Function: i})
	}
	told(t, m, joined(lines(m)))
	thereAndBack(t, m)
}

// The longest texts: the instruction of one byte with the longest word, and the most labels, as often as may be. They are far below the bound of what is read.
func TestTheLongestTextsAreRead(t *testing.T) {
	m := api.Module{Types: []api.Sig{{}}}
	for range 8 {
		m.Functions = append(m.Functions, api.Function{Code: slices.Repeat([]api.Ins{{Op: 0x71}}, api.MaxCode)})
	}
	thereAndBack(t, m)
	m.Functions = nil
	for range 8 {
		m.Functions = append(m.Functions, api.Function{Code: slices.Repeat([]api.Ins{{Op: 0x09, L: slices.Repeat([]int{127}, 16)}}, 440)})
	}
	thereAndBack(t, m)
}

func someBlanks(r *rand.Rand, least int) string {
	s := ""
	for range least + r.Intn(3) {
		s += string("\t\r "[r.Intn(3)])
	}
	return s
}

// loosened is the text with other blanks, lines without words, and remarks.
func loosened(r *rand.Rand, list []string) string {
	var out []string
	between := func() {
		for range r.Intn(3) {
			out = append(out, someBlanks(r, 0))
		}
		for range r.Intn(2) {
			out = append(out, someBlanks(r, 0)+";"+someBlanks(r, 0)+[]string{"", "nix", "memory 0 0", ";", "\xff"}[r.Intn(5)])
		}
	}
	for _, line := range list {
		between()
		s := someBlanks(r, 0)
		for i, word := range strings.Fields(line) {
			if i > 0 {
				s += someBlanks(r, 1)
			}
			s += word
		}
		out = append(out, s+someBlanks(r, 0))
	}
	between()
	return strings.Join(out, "\n") + strings.Repeat("\n", r.Intn(2))
}

func TestBlanksAndRemarksChangeNothing(t *testing.T) {
	r := rand.New(rand.NewSource(64))
	for range 2000 {
		m := someModule(r)
		s := loosened(r, lines(m))
		taken(t, "what follows", s, m)
		back, _, _ := text.Parse(s)
		if again, e := text.Print(back); again != joined(lines(m)) || e != api.OK {
			t.Errorf("W8: %q is printed as %q, %d", s, again, e)
		}
	}
	taken(t, "what follows", loosened(r, lines(rich())), rich())
	taken(t, "what follows", strings.ReplaceAll(example, "\n", "\r\n"), exampleModule())
	taken(t, "what follows", strings.ReplaceAll(example, "\n", "\n\n; x\n\n"), exampleModule())
	taken(t, "what follows", strings.TrimSuffix(example, "\n"), exampleModule())
	taken(t, "what follows", strings.ReplaceAll(example, "\n  ", "\n"), exampleModule())
}

// TestALineLostOrSpoilt: every line of a text counts, and what is said of it names it.
func TestALineLostOrSpoilt(t *testing.T) {
	list := lines(rich())
	for at := range list {
		for _, with := range []string{"nix", list[at] + " 0x", strings.ToUpper(list[at])} {
			spoilt := slices.Clone(list)
			spoilt[at] = with
			refused(t, "P6.2: spoilt", joined(spoilt), api.ErrWord, at+1)
		}
		m, e, _ := text.Parse(joined(slices.Delete(slices.Clone(list), at, at+1)))
		if e == api.OK && same(m, rich()) {
			t.Errorf("P6.2: without the line %q it is the same module", list[at])
		}
	}
}

// TestAnything: no text makes it panic, and what is taken is printed as what is read as the same.
func TestAnything(t *testing.T) {
	r := rand.New(rand.NewSource(65))
	words := strings.Fields("flagon type extern global memory func data export nop end brtable get w l - -> var const 0 1 -1 00 7f ; \xff w.const")
	for range 20000 {
		s := ""
		for range r.Intn(30) {
			s += words[r.Intn(len(words))] + []string{" ", "\n", "\n", "\t"}[r.Intn(4)]
		}
		if r.Intn(2) == 0 {
			s = "flagon\ntype w -> w\nmemory 1 1\n" + s
		}
		b := []byte(s)
		for range r.Intn(3) {
			if len(b) > 0 {
				b[r.Intn(len(b))] = byte(r.Intn(256))
			}
		}
		m, e, at := text.Parse(string(b))
		if e != api.OK && !same(m, api.Module{}) || (e == api.ErrWord) != (at > 0) || at > strings.Count(string(b), "\n")+1 {
			t.Errorf("R2: %q: %v, %d at %d", b, m, e, at)
		}
		if e == api.OK {
			thereAndBack(t, m)
		}
	}
}

package text_test

import (
	"fmt"
	"math/rand"
	"regexp"
	"strings"
	"testing"

	"flagon/api"
	"flagon/module"
	"flagon/text"
)

const mostBytes = 1 << 20

func TestParseExamples(t *testing.T) {
	taken(t, "P6.2", example, exampleModule())
	taken(t, "P6.2", "flagon\nmemory 0 0", api.Module{})
	taken(t, "P6.2", "; x\n\n  flagon\nmemory\t0 0", api.Module{})
	refused(t, "P6.2", "flagon\n", api.ErrWord, 2)
	refused(t, "P6.2", "", api.ErrWord, 1)
	refused(t, "P6.2", "memory 0 0", api.ErrWord, 1)
	refused(t, "P6.2", "flagon\nmemory 0 0\nget 0", api.ErrWord, 3)
	refused(t, "P6.2", "flagon\nmemory 0 0\nextern 0", api.ErrWord, 3)
	refused(t, "P6.2", "flagon\nmemory 0 0\ndata 0", api.ErrWord, 3)
	refused(t, "P6.2", "flagon\nmemory 0 00", api.ErrWord, 2)
	refused(t, "P6.2", "flagon\nmemory 1 0", api.ErrRange, 0)
	refused(t, "P6.2", "flagon\nglobal w var 2147483648", api.ErrWord, 2)
}

// The kinds of lines, a letter each: what may begin a text, in the document's order. Every beginning of a text that may be is of this form too.
const kindLetters = "ftxgmFide"

func mayStand() *regexp.Regexp {
	return regexp.MustCompile("^(ft*x*g*(m(Fi*)*d*e*)?)?$")
}

// build is the text of such lines, each in a form that may be, and the module that they tell.
func build(kinds string) ([]string, api.Module) {
	var m api.Module
	var out []string
	for i, k := range kinds {
		switch k {
		case 'f':
			out = append(out, "flagon")
		case 't':
			x := api.Sig{Params: strings.Repeat("w", i%9), Results: strings.Repeat("l", i/9)}
			m.Types = append(m.Types, x)
			out = append(out, "type "+orDash(x.Params)+" -> "+orDash(x.Results))
		case 'x':
			m.Hosts = append(m.Hosts, 0)
			out = append(out, "extern 0")
		case 'g':
			m.Globals = append(m.Globals, api.Global{Letter: 'l', Mutable: true, Value: uint64(i)})
			out = append(out, fmt.Sprint("global l var ", i))
		case 'm':
			m.First, m.Most = 1, 2
			out = append(out, "memory 1 2")
		case 'F':
			m.Functions = append(m.Functions, api.Function{Locals: "w"})
			out = append(out, "func 0 w")
		case 'i':
			if n := len(m.Functions); n > 0 {
				f := &m.Functions[n-1]
				f.Code = append(f.Code, api.Ins{Op: 0x18, A: int64(i)})
			}
			out = append(out, fmt.Sprint("  w.const ", i))
		case 'd':
			m.Data = append(m.Data, api.Data{At: 2 * i, B: []byte{byte(i)}})
			out = append(out, fmt.Sprintf("data %d %02x", 2*i, i))
		case 'e':
			m.Exports = append(m.Exports, api.Export{Name: string(rune('A' + i))})
			out = append(out, fmt.Sprintf("export %c 0", 'A'+i))
		}
	}
	return out, m
}

// inOrder asks of such lines what the order says of them.
func inOrder(t *testing.T, may *regexp.Regexp, kinds string) {
	t.Helper()
	list, m := build(kinds)
	s := strings.Join(list, "\n")
	for n := range kinds {
		if !may.MatchString(kinds[:n+1]) {
			refused(t, "P6.2: order", s, api.ErrWord, n+1)
			return
		}
	}
	if !strings.Contains(kinds, "m") {
		refused(t, "P6.2: no memory line", s, api.ErrWord, max(len(kinds), 1))
		refused(t, "P6.2: no memory line", s+"\n", api.ErrWord, max(len(kinds), 1)+1)
		return
	}
	if e := module.Check(m); e != api.OK {
		refused(t, "P6.2: order", s, e, 0)
		return
	}
	taken(t, "P6.2: order", s, m)
}

// TestOrder goes through all short texts, and through longer ones that begin as they may.
func TestOrder(t *testing.T) {
	may := mayStand()
	all := []string{""}
	for range 5 {
		for _, k := range all {
			inOrder(t, may, k)
		}
		var next []string
		for _, k := range all {
			for _, c := range kindLetters {
				next = append(next, k+string(c))
			}
		}
		all = next
	}
	r := rand.New(rand.NewSource(62))
	for range 3000 {
		k := ""
		for _, c := range "ftxgmFiiFide" {
			many := r.Intn(3)
			if c == 'f' || c == 'm' || c == 't' {
				many = 1
			}
			k += strings.Repeat(string(c), many)
		}
		inOrder(t, may, k)
		at := r.Intn(len(k))
		inOrder(t, may, k[:at]+string(kindLetters[r.Intn(9)])+k[at:])
		inOrder(t, may, k[:at]+k[at+1:])
	}
}

// A beginning after which lines of any kind, but those of one line alone, may be tried.
const (
	upToTypes  = "flagon\ntype w -> w\n"
	upToMemory = upToTypes + "memory 1 2\n"
	upToCode   = upToMemory + "func 0 -\n"
)

// place is where a line may stand: what comes ahead, and what must still come behind.
type place struct{ ahead, line, behind string }

func places() []place {
	return []place{
		{"", "flagon", "\nmemory 0 0"},
		{"flagon\n", "type w -> l", "\nmemory 0 0"},
		{upToTypes, "extern 0", "\nmemory 0 0"},
		{upToTypes, "global w var 5", "\nmemory 0 0"},
		{upToTypes, "global l const -5", "\nmemory 0 0"},
		{upToTypes, "memory 1 2", ""},
		{upToMemory, "func 0 -", ""},
		{upToMemory, "func 0 wl", ""},
		{upToMemory, "data 3 07", ""},
		{upToCode, "export f 0", ""},
	}
}

// try asks for ErrWord at that line in that place, whatever comes behind.
func (p place) try(t *testing.T, what, line string) {
	t.Helper()
	n := strings.Count(p.ahead, "\n") + 1
	refused(t, what, p.ahead+line+p.behind, api.ErrWord, n)
	refused(t, what, p.ahead+line+p.behind+"\nnix", api.ErrWord, n)
	refused(t, what, p.ahead+"\n;\n"+line, api.ErrWord, n+2)
}

func TestHowManyWords(t *testing.T) {
	for _, p := range places() {
		if _, e, at := text.Parse(p.ahead + p.line + p.behind); e != api.OK || at != 0 {
			t.Errorf("P6.2: %q in its place: %d at %d", p.line, e, at)
		}
		words := strings.Fields(p.line)
		for n := 1; n < len(words); n++ {
			p.try(t, "P6.2: too few words", strings.Join(words[:n], " "))
		}
		for _, more := range []string{"0", words[len(words)-1], "-", "x", ";", "; x", "w", "nop"} {
			p.try(t, "P6.2: too many words", p.line+" "+more)
		}
	}
}

func TestEachInstruction(t *testing.T) {
	p := place{ahead: upToCode}
	for _, row := range instructions() {
		x, behind := api.Ins{Op: row.op}, ""
		switch row.takes {
		case nothing:
			p.try(t, "P6.2: too many words", row.word+" 0")
		case number:
			x.A, behind = 21, " 21"
			p.try(t, "P6.2: too few words", row.word)
			p.try(t, "P6.2: too many words", row.word+" 0 0")
			p.try(t, "P6.2: no number", row.word+" x")
		case labels:
			x.L, behind = []int{3, 0, 21}, " 3 0 21"
			p.try(t, "P6.2: no number", row.word+" 3 x 4")
		}
		m := api.Module{Types: []api.Sig{{Params: "w", Results: "w"}}, First: 1, Most: 2, Functions: []api.Function{{Code: []api.Ins{x}}}}
		taken(t, "P6.2", upToCode+"  "+row.word+behind+"\n", m)
		taken(t, "P6.2", upToCode+row.word+behind, m)
		for _, word := range []string{strings.ToUpper(row.word), row.word + ".", "x." + row.word, "w.w." + row.word, row.word + "0", strings.TrimPrefix(strings.TrimPrefix(row.word, "w."), "l.") + "?"} {
			p.try(t, "P6.2: no instruction", word+behind)
		}
	}
}

func TestLabels(t *testing.T) {
	refused(t, "P6.2", upToCode+"brtable", api.ErrRange, 0)
	refused(t, "P6.2", upToCode+"brtable"+strings.Repeat(" 0", 17), api.ErrRange, 0)
	refused(t, "P6.2", upToCode+"brtable 0 -1", api.ErrRange, 0)
	refused(t, "P6.2", upToCode+"brtable 0 2147483648", api.ErrRange, 0)
	taken(t, "P6.2", upToCode+"brtable"+strings.Repeat(" 7", 16), api.Module{Types: []api.Sig{{Params: "w", Results: "w"}}, First: 1, Most: 2,
		Functions: []api.Function{{Code: []api.Ins{{Op: 0x09, L: []int{7, 7, 7, 7, 7, 7, 7, 7, 7, 7, 7, 7, 7, 7, 7, 7}}}}}})
}

func TestWordsThatAreNone(t *testing.T) {
	for _, p := range places() {
		for _, word := range []string{"nix", "Flagon", "FLAGON", "flagon;", "types", "hosts", "host0", "import", "function", "datas", "Export", "w.", "l.", "w", ".", "-", "0", "rotr", "w.nop", "get0", "#", "//", "\x00", "\xff", "\ufeffflagon", "\u00a0nop", "nop\x0b", "nop\x0c", "\x85nop", "\u2028"} {
			p.try(t, "P6.2: no first word", word)
			p.try(t, "P6.2: no first word", word+" 0")
			p.try(t, "P6.2: no first word", word+" 0 0")
		}
	}
}

func badNumbers() []string {
	return []string{"+1", "+0", "00", "01", "007", "-0", "-00", "-01", "--1", "-", "+", "1-", "1.0", "1.", ".5", "0x1", "0b1", "0o7", "1_0", "1e3", "1a", "a", "1,0", "\u0661", "\uff11", "1\x00", "\xff", "1\u00a0", "''",
		"9223372036854775808", "-9223372036854775809", "18446744073709551615", "18446744073709551616", "99999999999999999999999999", "-99999999999999999999999999", "09223372036854775807"}
}

func goodNumbers() []string {
	return []string{"0", "1", "-1", "9", "10", "2147483647", "2147483648", "-2147483648", "-2147483649", "4294967295", "4294967296", "9223372036854775807", "-9223372036854775808"}
}

// numbered is every kind of line that has a number, the number as %s.
func numbered() []place {
	out := []place{
		{upToTypes, "extern %s", "\nmemory 0 0"},
		{upToTypes, "global l var %s", "\nmemory 0 0"},
		{upToTypes, "memory %s 5", ""},
		{upToTypes, "memory 0 %s", ""},
		{upToMemory, "func %s -", ""},
		{upToMemory, "data %s 00", ""},
		{upToCode, "export f %s", ""},
		{upToCode, "brtable %s 0", ""},
		{upToCode, "brtable 0 %s", ""},
	}
	for _, row := range instructions() {
		if row.takes == number {
			out = append(out, place{upToCode, row.word + " %s", ""})
		}
	}
	return out
}

func TestNumbers(t *testing.T) {
	for _, p := range append(numbered(), place{upToTypes, "global w const %s", "\nmemory 0 0"}) {
		for _, n := range badNumbers() {
			p.try(t, "P6.2, R7: no number", fmt.Sprintf(p.line, n))
		}
	}
	for _, p := range numbered() {
		for _, n := range goodNumbers() { // whether such a one may be is another matter, and not the line's
			if _, e, at := text.Parse(p.ahead + fmt.Sprintf(p.line, n) + p.behind); e == api.ErrWord || at != 0 {
				t.Errorf("P6.2: %q with %s: %d at %d", p.line, n, e, at)
			}
		}
	}
}

func TestNumbersAreRead(t *testing.T) {
	for n, want := range map[string]int64{"0": 0, "-1": -1, "90": 90, "9223372036854775807": 1<<63 - 1, "-9223372036854775808": -1 << 63} {
		m, e, _ := text.Parse("flagon\nglobal l const " + n + "\nmemory 0 0")
		if e != api.OK || m.Globals[0].Value != uint64(want) || m.Globals[0].Mutable || m.Globals[0].Letter != 'l' {
			t.Errorf("P6.2: an l of %s: %v, %d", n, m.Globals, e)
		}
		m, e, _ = text.Parse(upToCode + "l.const " + n)
		if e != api.OK || m.Functions[0].Code[0].A != want {
			t.Errorf("P6.2: l.const %s: %v, %d", n, m.Functions, e)
		}
	}
}

func TestGlobals(t *testing.T) {
	for n, want := range map[string]uint64{"0": 0, "-1": 1<<32 - 1, "2147483647": 1<<31 - 1, "-2147483648": 1 << 31, "-2147483647": 1<<31 + 1} {
		taken(t, "P6.2", "flagon\nglobal w var "+n+"\nmemory 0 0", api.Module{Globals: []api.Global{{Letter: 'w', Mutable: true, Value: want}}})
		taken(t, "P6.2", "flagon\nglobal w const "+n+"\nmemory 0 0", api.Module{Globals: []api.Global{{Letter: 'w', Value: want}}})
	}
	p := place{"flagon\n", "", "\nmemory 0 0"}
	for _, n := range []string{"2147483648", "-2147483649", "4294967295", "4294967296", "-4294967296", "9223372036854775807", "-9223372036854775808"} {
		p.try(t, "P6.2: a w of more than 32 bits", "global w var "+n)
		p.try(t, "P6.2: a w of more than 32 bits", "global w const "+n)
	}
	for _, letter := range []string{"x", "W", "L", "ww", "wl", "-", "0", "var", "const", "\u0177"} {
		p.try(t, "P6.2: no letter", "global "+letter+" var 0")
	}
	for _, word := range []string{"Var", "let", "mut", "constant", "-", "0", "1", "w"} {
		p.try(t, "P6.2: neither var nor const", "global w "+word+" 0")
		p.try(t, "P6.2: neither var nor const", "global l "+word+" 0")
	}
	p.try(t, "P6.2: words in another order", "global var w 0")
	p.try(t, "P6.2: words in another order", "global w 0 var")
}

func TestSignatures(t *testing.T) {
	p := place{"flagon\n", "", "\nmemory 0 0"}
	for _, s := range []string{"", "w", "->", "w ->", "-> w", "w w", "w w w", "w->w", "w ->w", "w-> w", "w => w", "w - w", "w -- w", "x -> w", "w -> x", "W -> w", "wwwwwwwww -> -", "- -> lllllllll", "-- -> -", "w- -> -", "w w -> w", "w -> w w", "w -> w -> w", "- - -> -", "\u0177 -> -", "w -\u00a0> w", "- \u2192 -"} {
		p.try(t, "P6.2: no signature", "type "+s)
	}
	for s, want := range map[string]api.Sig{"- -> -": {}, "wwwwwwww -> llllllll": {Params: "wwwwwwww", Results: "llllllll"}, "- -> l": {Results: "l"}, "wl -> -": {Params: "wl"}} {
		taken(t, "P6.2", "flagon\ntype "+s+"\nmemory 0 0", api.Module{Types: []api.Sig{want}})
		taken(t, "P6.2", "flagon\n\ttype \t"+strings.ReplaceAll(s, " ", " \r \t")+"\t\nmemory 0 0", api.Module{Types: []api.Sig{want}})
	}
}

func TestLocals(t *testing.T) {
	base := api.Module{Types: []api.Sig{{Params: "w", Results: "w"}}, First: 1, Most: 2}
	for s, want := range map[string]string{"-": "", "w": "w", "lwl": "lwl", strings.Repeat("l", 63): strings.Repeat("l", 63)} {
		m := base
		m.Functions = []api.Function{{Locals: want}}
		taken(t, "P6.2", upToMemory+"func 0 "+s, m)
	}
	for _, s := range []string{"x", "--", "-w", "w-", "0", "W", ";", "\xff"} {
		refused(t, "P6.2: locals as they stand", upToMemory+"func 0 "+s, api.ErrType, 0)
	}
	refused(t, "P6.2: locals as they stand", upToMemory+"func 0 "+strings.Repeat("x", 64), api.ErrLong, 0)
}

func TestBytes(t *testing.T) {
	p := place{ahead: upToMemory}
	for _, s := range []string{"", "0", "000", "0A", "A0", "FF", "0g", "g0", "0x00", "-1", "+1", "00 00", "0.", "\xff\xff", "00\x00\x00", "\u0661", "0\u00a0", "00;", "0;", "'00'", "00000", ":0", "/0", "0:", "0/", "`0", "@0", "G0"} {
		p.try(t, "P6.2: no bytes", "data 0 "+s)
	}
	for v := range 256 {
		at := api.Data{At: 9, B: []byte{byte(v), 0, byte(v)}}
		taken(t, "P6.2", upToMemory+fmt.Sprintf("data 9 %02x00%02x", v, v), api.Module{Types: []api.Sig{{Params: "w", Results: "w"}}, First: 1, Most: 2, Data: []api.Data{at}})
		for _, c := range []string{string([]byte{byte(v)}), string(rune(v))} {
			if !strings.Contains("0123456789abcdef \t\r\n", c) {
				p.try(t, "P6.2: no digit", "data 9 0"+c)
				p.try(t, "P6.2: no digit", "data 9 "+c+"0")
			}
		}
	}
}

func TestLength(t *testing.T) {
	short := "flagon\nmemory 0 0\n"
	for _, fill := range []string{" ", "\t", "\r", "\n", ";", ";\n", " ;x\n"} {
		pad := strings.Repeat(fill, mostBytes+1)
		taken(t, "P6.2: 2^20 bytes", short+pad[:mostBytes-len(short)], api.Module{})
		refused(t, "P6.2: a byte more", short+pad[:mostBytes+1-len(short)], api.ErrLong, 0)
		refused(t, "P6.2: a byte more", pad[:mostBytes+1], api.ErrLong, 0)
	}
	refused(t, "P6.2", strings.Repeat("\n", mostBytes), api.ErrWord, mostBytes+1)
	refused(t, "P6.2", strings.Repeat("\n", mostBytes+1), api.ErrLong, 0)
	refused(t, "P6.2", strings.Repeat("\n", mostBytes-1)+"x", api.ErrWord, mostBytes)
	refused(t, "P6.2", strings.Repeat("x", mostBytes), api.ErrWord, 1)
	refused(t, "P6.2", strings.Repeat("x", mostBytes+1), api.ErrLong, 0)
	refused(t, "P6.2", strings.Repeat("x", 3*mostBytes), api.ErrLong, 0)
	refused(t, "P6.2", upToCode+strings.Repeat("nop\n", (mostBytes-len(upToCode))/4), api.ErrMany, 0)
}

func TestEndsAheadOfMemory(t *testing.T) {
	for s, line := range map[string]int{
		"": 1, " ": 1, ";": 1, "\n": 2, "\n\n\n": 4, "; x\n;y": 2, "flagon": 1, "flagon\n": 2, "flagon\n\n\n": 4, "flagon\n; x\n \t": 3, "flagon\r\n": 2,
		"flagon\ntype w -> w": 2, "flagon\ntype w -> w\n": 3, "flagon\ntype w -> w\ntype - -> -\n;": 4, "flagon\ntype w -> w\nextern 0\n": 4, "flagon\ntype w -> w\nextern 5": 3, "flagon\nglobal w var 0\n": 3,
		"flagon\n;memory 0 0": 2, "flagon\n; x\nmemory": 3, "flagon\ntype - -> -\ntype - -> -\n": 4, "flagon\rmemory 0 0": 1,
	} {
		refused(t, "P6.2: ends ahead of memory", s, api.ErrWord, line)
	}
}

func TestFirstLineThatCannotStand(t *testing.T) {
	refused(t, "P6.2", "flagon\ntype w -> w\nnix\nmemory 0 00\n", api.ErrWord, 3)
	refused(t, "P6.2", "flagon\nextern 9\nmemory 0 00\n", api.ErrWord, 3)
	refused(t, "P6.2", "flagon\nextern 9\nmemory 0 0\n", api.ErrIndex, 0)
	refused(t, "P6.2", "flagon\ntype - -> -\ntype - -> -\nmemory 1 0\n", api.ErrTwice, 0)
	refused(t, "P6.2", "flagon\nmemory 1 0\nexport f 0", api.ErrRange, 0)
	refused(t, "P6.2", "flagon\nmemory 1 0\nexport f", api.ErrWord, 3)
}

func TestBytesThatAreNoBlanks(t *testing.T) {
	for v := range 256 {
		for _, c := range []string{string([]byte{byte(v)}), string(rune(v))} {
			if strings.Contains(" \t\r\n", c) {
				continue
			}
			refused(t, "P6.2: no blank", "flagon"+c+"\nmemory 0 0", api.ErrWord, 1)
			refused(t, "P6.2: no blank", "flagon\nmemory"+c+"0 0", api.ErrWord, 2)
			if c != ";" {
				refused(t, "P6.2: no blank", "flagon\nmemory 0 0\n"+c+" data", api.ErrWord, 3)
			}
		}
	}
	for _, c := range []string{"\u00a0", "\u0085", "\u2003", "\u2028", "\u3000", "\ufeff", "\v", "\f", "\x00"} {
		refused(t, "P6.2: no blank", "flagon\nmemory 0"+c+"0", api.ErrWord, 2)
		refused(t, "P6.2: no line without words", "flagon\n"+c+"\nmemory 0 0", api.ErrWord, 2)
	}
}

func TestRemarks(t *testing.T) {
	for _, s := range []string{";", ";;", "; x", ";x", ";flagon", ";memory 0 00", " ;", "\t\r ; \xff\x00", "; memory 9", ";nop", ";\u00e9"} {
		taken(t, "P6.2: a remark", s+"\nflagon\n"+s+"\nmemory 0 0\n"+s, api.Module{})
		m, e, at := text.Parse(upToCode + s + "\n nop\n" + s + "\ndata 0 00\n" + s + "\nexport f 0")
		if e != api.OK || at != 0 || len(m.Functions[0].Code) != 1 || len(m.Data) != 1 || len(m.Exports) != 1 {
			t.Errorf("P6.2: a remark %q between: %v, %d at %d", s, m, e, at)
		}
	}
	refused(t, "P6.2: a remark behind", "flagon ; x", api.ErrWord, 1)
	refused(t, "P6.2: a remark behind", "flagon;", api.ErrWord, 1)
	refused(t, "P6.2: a remark behind", upToCode+"nop ;", api.ErrWord, 5)
	refused(t, "P6.2: a remark behind", upToCode+"brtable 0 ;", api.ErrWord, 5)
	taken(t, "P6.2: a name that begins like a remark", upToCode+"export ;x 0", api.Module{Types: []api.Sig{{Params: "w", Results: "w"}}, First: 1, Most: 2, Functions: []api.Function{{}}, Exports: []api.Export{{Name: ";x"}}})
}

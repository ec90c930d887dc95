package play_test

import (
	"encoding/hex"
	"fmt"
	"math/rand"
	"strings"
	"testing"

	"flagon/api"
	"flagon/snap"
)

// speaker draws lines for a module.
type speaker struct {
	r     *rand.Rand
	m     api.Module
	saved []string
}

// of: one of these texts.
func (d *speaker) of(list ...string) string {
	return list[d.r.Intn(len(list))]
}

// blanks: one, or some.
func (d *speaker) blanks() string {
	return strings.Repeat(" ", 1+d.r.Intn(2)*d.r.Intn(4))
}

// value: as a word; of a great one perhaps the one with a sign.
func (d *speaker) value(letter byte) string {
	v := drawnValue(d.r, letter)
	if d.r.Intn(2) == 0 && letter == 'l' {
		return fmt.Sprint(int64(v))
	}
	return fmt.Sprint(v)
}

// values: one for each letter, with that text between.
func (d *speaker) values(letters, between string) string {
	var list []string
	for at := range letters {
		list = append(list, d.value(letters[at]))
	}
	return strings.Join(list, between)
}

func (d *speaker) reply() string {
	if len(d.m.Hosts) > 0 && d.r.Intn(3) > 0 {
		if results := d.m.Types[d.m.Hosts[d.r.Intn(len(d.m.Hosts))]].Results; results != "" {
			return d.values(results, ",")
		}
		return "none"
	}
	return d.of("trap", "none", "1", "5,6", "-1", "18446744073709551615,0")
}

func (d *speaker) script() string {
	line := "script"
	for range d.r.Intn(6) {
		line += d.blanks() + d.reply()
	}
	return line
}

func (d *speaker) begin() string {
	at := d.r.Intn(len(d.m.Functions))
	params := d.m.Types[d.m.Functions[at].Type].Params
	if d.r.Intn(8) == 0 {
		return "begin " + d.of("main", "f", "f00", "f9", "-1") + d.blanks() + d.values("wl", " ")
	}
	if d.r.Intn(8) == 0 {
		params += "w"
	}
	return strings.TrimRight("begin"+d.blanks()+fmt.Sprint("f", at)+" "+d.values(params, d.blanks()), " ")
}

func (d *speaker) run() string {
	fuel := d.of("0", "1", "2", "3", "5", "9", "17", "100", "1000", "-1")
	return "run" + d.blanks() + d.of("slow", "fast") + d.blanks() + fuel
}

// restore: of what was saved, of a state that is drawn, or of either with another byte.
func (d *speaker) restore() string {
	bytes, _ := snap.Write(drawnState(d.r, d.m))
	if len(d.saved) > 0 && d.r.Intn(2) == 0 {
		bytes, _ = hex.DecodeString(d.saved[d.r.Intn(len(d.saved))])
	}
	if d.r.Intn(3) == 0 {
		bytes[d.r.Intn(len(bytes))] ^= 1 << d.r.Intn(8)
	}
	return "restore" + d.blanks() + hex.EncodeToString(bytes)
}

// load: of the module, or of it with another byte.
func (d *speaker) load(t *testing.T) string {
	digits := octets(t, d.m)
	if d.r.Intn(2) == 0 {
		bytes, _ := hex.DecodeString(digits)
		bytes[d.r.Intn(len(bytes))] ^= 1 << d.r.Intn(8)
		digits = hex.EncodeToString(bytes)
	}
	return "load" + d.blanks() + digits
}

// text: likewise, with another byte that may stand there.
func (d *speaker) text(t *testing.T) string {
	word := []byte(source(t, d.m))
	if d.r.Intn(2) == 0 {
		word[1+d.r.Intn(len(word)-2)] = byte(' ' + d.r.Intn(95))
	}
	return "text" + d.blanks() + string(word)
}

func (d *speaker) line(t *testing.T) string {
	switch d.r.Intn(12) {
	case 0:
		return d.load(t)
	case 1:
		return d.text(t)
	case 2:
		return d.script()
	case 3, 4, 5:
		return d.begin()
	case 6, 7, 8:
		return d.run()
	case 9:
		return d.restore()
	}
	return d.of("state", "save", "bytes", "source", "", "  ")
}

// spoiled: a line with something else in it, which may fit all the same.
func (d *speaker) spoiled(line string) string {
	at := d.r.Intn(len(line) + 1)
	to := min(at+1, len(line))
	words := strings.Fields(line)
	switch d.r.Intn(8) {
	case 0:
		return line[:at] + string([]byte{byte(d.r.Intn(256))}) + line[at:]
	case 1:
		return line[:at] + string([]byte{byte(' ' + d.r.Intn(95))}) + line[to:]
	case 2:
		return line[:at] + line[to:]
	case 3:
		return line[:at] + d.of(" ", `"`, `\`, "\n", "\t", "0", ",", "-") + line[at:]
	case 4:
		return line + d.of(" ", " 0", " 1", " x", ` ""`, " trap", ",")
	case 5:
		return line[:at]
	case 6:
		return strings.Join(append(words, words...), " ")
	}
	if len(words) > 0 {
		at := d.r.Intn(len(words))
		words[at] = d.of(quotedWord(words[at]), "0"+words[at], "-"+words[at], words[at]+",", strings.ToUpper(words[at]), "")
	}
	return strings.Join(words, " ")
}

// kindOf: what became of a line.
func kindOf(told []string) string {
	switch {
	case len(told) == 1 && told[0] == misfit:
		return " misfit"
	case len(told) == 1 && strings.HasPrefix(told[0], "error"):
		return " error"
	}
	return " done"
}

// TestLines: drawn lines, of which many do not fit, told as by the session that goes along; what each of them leaves behind is looked at by other ones.
func TestLines(t *testing.T) {
	r := rand.New(rand.NewSource(3000))
	count := map[string]int{}
	for round := range 150 {
		d := speaker{r: r}
		if all := runs(); round < 2*len(all) {
			d.m = named(all[round/2].m)
		} else {
			d.m = named(drawnModule(r))
		}
		p := paired(t)
		for range 60 {
			line := d.line(t)
			first, _, _ := strings.Cut(strings.TrimLeft(line, " ")+" ", " ")
			if r.Intn(3) == 0 {
				line = d.spoiled(line)
			}
			told := p.do(t, line)
			count[first+kindOf(told)]++
			p.agrees(t)
			if got := p.told("save"); kindOf(got) == " done" {
				d.saved = append(d.saved, got[0])
			}
		}
	}
	for _, first := range []string{"text", "load", "source", "bytes", "script", "begin", "run", "state", "save", "restore", ""} {
		for _, kind := range []string{" misfit", " error", " done"} {
			least := 20
			if kind == " error" && (first == "script" || first == "") {
				least = 0
			}
			if count[first+kind] < least {
				t.Errorf("of %q only %d are%s", first, count[first+kind], kind)
			}
		}
	}
}

// TestForms: all lines of few pieces, told as by the session that goes along.
func TestForms(t *testing.T) {
	pieces := []string{"run", "script", "text", "state", "load", "slow", "5", "0", "-1", "00", "trap", ",", " ", " ", `"`, `\`, "n", "\n", "\t", "x"}
	p := paired(t)
	p.do(t, five)
	p.do(t, "begin main")
	var all func(line string, left int)
	all = func(line string, left int) {
		p.do(t, line)
		if left == 0 {
			return
		}
		for _, next := range pieces {
			all(line+next, left-1)
		}
	}
	all("", 4)
	p.agrees(t)
	r := rand.New(rand.NewSource(31))
	for range 100000 {
		line := ""
		for range 5 + r.Intn(10) {
			line += pieces[r.Intn(len(pieces))]
		}
		p.do(t, line)
	}
	p.agrees(t)
}

package judge_test

import (
	"math"
	"strconv"
	"strings"
	"testing"

	"flagon/api"
	"flagon/judge"
	"flagon/validate"
)

// lines is a code with the shape at each of its instructions.
type lines struct{ code, shapes string }

func (l *lines) add(shape, word string) {
	l.code += word + " "
	l.shapes += "." + shape + " "
}

// pc is that of the last one.
func (l *lines) pc() int {
	return len(strings.Fields(l.code)) - 1
}

// push puts those letters on top of s, one by one, and answers the shape then.
func (l *lines) push(s, letters string) string {
	for _, letter := range letters {
		l.add(s, string(letter)+".const")
		s += string(letter)
	}
	return s
}

// way adds the way's instruction with the letters that it finds, and answers its pc. Only an else or an end can stand behind it.
func (l *lines) way(s, letters, word, number string) int {
	s = l.push(s, letters)
	if word == "br" {
		l.add(s, "br:"+number)
		return l.pc()
	}
	s = l.push(s, "w")
	l.add(s, word+":"+number)
	pc := l.pc()
	if word == "brif" {
		l.add(s[:len(s)-1], "trap")
	}
	return pc
}

// labelled: code in which a way leads to the label of an opener of that kind and type, from so many openers further in; it finds those letters. It answers the way's pc.
func labelled(kind string, number int, x api.Sig, base, letters, word string, further int) (lines, int) {
	var l lines
	s := l.push(l.push("", base), x.Params)
	if kind == "if" {
		l.push(s, "w")
		l.add(s+"w", kind+":"+strconv.Itoa(number))
	} else {
		l.add(s, kind+":"+strconv.Itoa(number))
	}
	for len(s) > len(base) {
		l.add(s, "drop")
		s = s[:len(s)-1]
	}
	for range further {
		l.add(s, "block:2")
	}
	pc := l.way(s, letters, word, strconv.Itoa(further))
	for range further {
		l.add(s, "end")
	}
	if further > 0 {
		l.add(s, "trap")
	}
	left := base + x.Results
	if kind == "if" {
		l.add(left, "else")
		l.add(base+x.Params, "trap")
	}
	l.add(left, "end")
	l.add(left, "trap")
	l.add("", "end")
	return l, pc
}

// TestLabels: what the labels of a block, a loop and an if bring to a br, a brif and a brtable, from within and from further in: just these letters are asked for.
func TestLabels(t *testing.T) {
	types := of(2, "").Types
	for number, x := range types {
		for _, kind := range []string{"block", "loop", "if"} {
			brings := x.Results
			if kind == "loop" {
				brings = x.Params
			}
			for _, word := range []string{"br", "brif", "brtable"} {
				for further := range 3 {
					for _, letters := range []string{brings, "w" + brings, "ll" + brings, "", "w", "l", "wl", "lw", "ww", "ll", "wlw", "lwl"} {
						l, pc := labelled(kind, number, x, []string{"", "l", "w"}[further], letters, word, further)
						held(t, l, 2, pc, strings.HasSuffix(letters, brings))
					}
				}
			}
		}
	}
}

// held: the judgement holds of the lines, or just what is asked of the top at that pc is broken.
func held(t *testing.T, l lines, number, pc int, so bool) {
	t.Helper()
	m, shapes := of(number, l.code), shapesOf(l.shapes)
	if !so {
		justOf(t, m, shapes, fault(pc, "top"))
	} else if !judge.Holds(m, 0, shapes) {
		t.Errorf("P11.1: %s, of %q: false", l.code, shapes)
	}
}

// TestBodyLabels: the body's label brings the function's results, not its parameters; return likewise.
func TestBodyLabels(t *testing.T) {
	for number, x := range of(2, "").Types {
		for _, word := range []string{"br", "brif", "brtable", "return"} {
			for further := range 3 {
				for _, letters := range []string{x.Results, "w" + x.Results, "l" + x.Results, "", "w", "l", "wl", "lw", "ww"} {
					var l lines
					s := l.push("", "wl"[:further])
					for at := range further {
						l.add(s, []string{"block:2", "loop:2"}[at])
					}
					pc := 0
					if word == "return" {
						l.add(l.push(s, letters), word)
						pc = l.pc()
					} else {
						pc = l.way(s, letters, word, strconv.Itoa(further))
					}
					for range further {
						l.add(s, "end")
					}
					if further > 0 {
						l.add(s, "trap")
					}
					l.add(x.Results, "end")
					held(t, l, number, pc, strings.HasSuffix(letters, x.Results))
				}
			}
		}
	}
}

// TestLabelNumbers: the last label's number is the body's; the first that is none's, and such far beyond.
func TestLabelNumbers(t *testing.T) {
	for depth := range 33 {
		for _, word := range []string{"br:%", "brif:%", "brtable:%", "brtable:0,%", "brtable:%,0"} {
			for _, number := range []int{depth, depth + 1, depth + 2, 33, 34, 1 << 20, math.MaxInt32} {
				var l lines
				for range depth {
					l.add("", []string{"block:2", "loop:2"}[depth%2])
				}
				way := strings.Replace(word, "%", strconv.Itoa(number), 1)
				s := l.push("", strings.Repeat("w", strings.Count(word, "brif")+strings.Count(word, "brt")))
				l.add(s, way)
				pc := l.pc()
				for range depth + 1 {
					l.add("", "end")
				}
				m, shapes := of(2, l.code), shapesOf(l.shapes)
				if number > depth {
					justOf(t, m, shapes, fault(pc, "label"))
				} else if !judge.Holds(m, 0, shapes) {
					t.Errorf("P11.1: %s: false", l.code)
				}
			}
		}
	}
}

// TestBrtables: one label and sixteen; labels that bring unlike letters, wherever they stand; one that is none's, wherever.
func TestBrtables(t *testing.T) {
	// The labels: 0 brings w, 1 l, 2 w, 3 nothing, and the body (4) w.
	in := func(numbers string) string {
		return "block:2 block:0 w.const block:6 drop block:0 %w.const brtable:" + numbers + " end drop trap end trap end trap end trap end"
	}
	with := func(letters, numbers string) (string, string) {
		return strings.Replace(in(numbers), "%", consts(letters), 1), ". . . w w . " + rising("", letters+"w") + "w w . l l w w . . w"
	}
	all := strings.Repeat("0,2,4,", 5)
	for _, x := range [][2]string{{"w", "0"}, {"w", "2"}, {"w", "4"}, {"l", "1"}, {"", "3"}, {"w", "0,2,4"}, {"w", "4,0"}, {"w", all + "2"}, {"l", "1,1"}, {"", "3,3,3"}} {
		code, shapes := with(x[0], x[1])
		kept(t, 0, code, shapes)
	}
	for _, numbers := range []string{"0,1", "1,0", "0,0,1", "0,2,4,3", "3,0", "0,3", "1,3,1", "0,1,0", "3,4", all + "1", "1," + all[:28] + "0"} {
		for _, letters := range []string{"w", "l", "", "lw", "wl"} {
			code, shapes := with(letters, numbers)
			just(t, 0, code, shapes, fault(6+len(letters)+1, "labels"))
		}
	}
	for _, numbers := range []string{"5", "0,5", "5,0", "0,2,5", "5,0,2", all + "2147483647"} {
		code, shapes := with("w", numbers)
		just(t, 0, code, shapes, "8 label")
	}
	for _, x := range [][2]string{{"", "0"}, {"l", "0,2"}, {"wl", "4"}, {"w", "1"}, {"lw", "1,1"}, {"", "0,2,4"}} {
		code, shapes := with(x[0], x[1])
		just(t, 0, code, shapes, fault(6+len(x[0])+1, "top"))
	}
	// What it chooses by is a w, and lies above the floor.
	just(t, 2, "l.const brtable:0 end", ". l .", "1 top")
	just(t, 2, "w.const block:2 brtable:0 end trap end", ". w w w w .", "2 top")
	just(t, 2, "w.const block:2 brtable:1 end trap end", ". w w w w .", "2 top")
	just(t, 0, "w.const block:2 w.const brtable:1 end trap end", ". w w ww w w w", "3 top")
	just(t, 2, "brtable:0 end", ". .", "0 top")
}

// TestBelowFloors: what a branch brings, and what it chooses by, lies above the floor where it stands.
func TestBelowFloors(t *testing.T) {
	for opener, ahead := range map[string]string{"block:2": "", "loop:2": "", "if:2": "w"} {
		shapes := rising("", "w"+ahead)
		at := 2 + len(ahead)
		code := "w.const " + consts(ahead) + opener + " "
		just(t, 0, code+"br:1 end trap end", shapes+"w w w w", fault(at, "top"))
		just(t, 0, code+"return end trap end", shapes+"w w w w", fault(at, "top"))
		just(t, 0, code+"w.const brif:1 trap end trap end", shapes+"w ww w w w w", fault(at+1, "top"))
		just(t, 2, code+"brif:0 trap end trap end", shapes+"w . w w .", fault(at, "top"))
		just(t, 2, code+"brif:1 trap end trap end", shapes+"w . w w .", fault(at, "top"))
		just(t, 4, code+"l.const return end trap end", shapes+"w wl w w wl", fault(at+1, "top"))
		just(t, 4, code+"l.const br:1 end trap end", shapes+"w wl w w wl", fault(at+1, "top"))
	}
	// brif: what stands behind it.
	for _, wrong := range []string{"w", "l", "lw", "ww"} {
		just(t, 2, "w.const brif:0 trap end", ". w "+wrong+" .", "1 next")
		just(t, 2, "w.const w.const loop:1 w.const brif:0 trap end trap end", ". w ww ww www "+wrong[1:]+"l ww ww .", "4 next")
	}
	just(t, 0, "w.const l.const brif:0 trap end", ". w wl w w", "2 top")
	just(t, 0, "w.const w.const brif:0 trap end", ". w ww . w", "2 next")
}

// TestNumbers: numbers of types, functions, hosts, locals and globals: the last one's shapes, then with a number that is none's, then in a module without it.
func TestNumbers(t *testing.T) {
	cut := map[string]func(m *api.Module){
		"type":   func(m *api.Module) { m.Types = m.Types[:len(m.Types)-1] },
		"call":   func(m *api.Module) { m.Functions = m.Functions[:len(m.Functions)-1] },
		"host":   func(m *api.Module) { m.Hosts = m.Hosts[:len(m.Hosts)-1] },
		"local":  func(m *api.Module) { f := &m.Functions[0]; f.Locals = f.Locals[:len(f.Locals)-1] },
		"global": func(m *api.Module) { m.Globals = m.Globals[:len(m.Globals)-1] },
	}
	for _, x := range []struct {
		list, ahead, word, behind string
		count                     int
	}{
		{"type", "", "block", "trap end", 11}, {"type", "", "loop", "trap end", 11}, {"type", "w", "if", "trap else trap end", 11},
		{"call", "", "call", "", 4}, {"host", "", "host", "", 3},
		{"local", "", "get", "", 2}, {"local", "w", "set", "", 2}, {"local", "w", "tee", "", 2},
		{"global", "", "gget", "", 4}, {"global", "l", "gset", "", 4},
	} {
		m := of(2, consts(x.ahead)+x.word+":"+strconv.Itoa(x.count-1)+" "+x.behind+" trap end")
		m.Exports = nil
		m.Globals[3].Mutable = true
		table, e, pc := validate.Function(m, 0)
		if e != api.OK || !judge.Holds(m, 0, table.Shapes) {
			t.Fatalf("P11.1: %s: %d at %d, or false", x.word, e, pc)
		}
		index := fault(len(x.ahead), "index")
		for _, number := range []int{x.count, x.count + 1, 64, 127, 128, 1 << 20, math.MaxInt32} {
			m.Functions[0].Code[len(x.ahead)].A = int64(number)
			if got := broken(m, 0, table.Shapes); got[0] != index || judge.Holds(m, 0, table.Shapes) {
				t.Errorf("P11.1: %s %d of %d: %t, %q", x.word, number, x.count, judge.Holds(m, 0, table.Shapes), got)
			}
		}
		m.Functions[0].Code[len(x.ahead)].A = int64(x.count - 1)
		cut[x.list](&m)
		if got := broken(m, 0, table.Shapes); got[0] != index || judge.Holds(m, 0, table.Shapes) {
			t.Errorf("P11.1: %s %d of %d: %t, %q", x.word, x.count-1, x.count-1, judge.Holds(m, 0, table.Shapes), got)
		}
	}
}

// TestNoType: openers of no type, with shapes that would fit a type of nothing.
func TestNoType(t *testing.T) {
	for _, number := range []string{"11", "12", "64", "2147483647"} {
		just(t, 2, "block:"+number+" trap end trap end", ". . . . .", "0 index", "2 base")
		just(t, 2, "loop:"+number+" trap end trap end", ". . . . .", "0 index", "2 base")
		just(t, 2, "loop:"+number+" br:0 end trap end", ". . . . .", "0 index", "1 base", "2 base")
		just(t, 2, "w.const if:"+number+" trap end trap end", ". w . . . .", "1 index", "3 base")
		just(t, 2, "w.const if:"+number+" trap else trap end trap end", ". w . . . . . .", "1 index", "3 base", "5 base")
		just(t, 2, "l.const w.const if:"+number+" trap end trap end", ". l lw l l l .", "2 index", "4 base")
	}
}

// TestLists: a number where its whole list is empty, with all shapes that could be.
func TestLists(t *testing.T) {
	m := api.Module{Types: []api.Sig{{}}, Functions: []api.Function{{}}}
	for _, code := range []string{"get trap end", "set trap end", "tee trap end", "gget trap end", "gset trap end", "host trap end", "call:1 trap end", "block:1 end end"} {
		m.Functions[0].Code = written(code)
		low(3, func(list []string) {
			if judge.Holds(m, 0, list) {
				t.Fatalf("P11.1: %s, of %q: true", code, list)
			}
		})
	}
	// Parameters are locals, ahead of the others.
	kept(t, 3, "get:0 drop get:1 drop get:2 drop get:3 drop get:1 get:0 end", ". w . l . l . w . l lw")
	just(t, 3, "get:4 trap end", ". w lw", "0 index")
	just(t, 3, "get:0 trap end", ". l lw", "0 next")
}

// TestMutable: a global that is not mutable can be asked for, not set; whether it is mutable alone makes the difference.
func TestMutable(t *testing.T) {
	for number, letter := range []string{"w", "l", "w", "l"} {
		m := of(2, letter+".const gset:"+strconv.Itoa(number)+" gget:"+strconv.Itoa(number)+" trap end")
		shapes := shapesOf(". " + letter + " . " + letter + " .")
		m.Globals[number].Mutable = true
		if !judge.Holds(m, 0, shapes) {
			t.Errorf("P11.1: gset %d of a mutable: false", number)
		}
		m.Globals[number].Mutable = false
		justOf(t, m, shapes, "1 mutable")
	}
	kept(t, 2, "gget:0 gget:1 trap end", ". w wl .")
}

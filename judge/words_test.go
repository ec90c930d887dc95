package judge_test

import (
	"slices"
	"strconv"
	"strings"
	"testing"

	"flagon/api"
	"flagon/judge"
	"flagon/ops"
	"flagon/validate"
)

// written is a code by its words: a number behind a colon, those of a brtable with commas between them; *9 behind a word: nine of them.
func written(text string) []api.Ins {
	var code []api.Ins
	for _, piece := range strings.Fields(text) {
		piece, times, many := strings.Cut(piece, "*")
		name, numbers, _ := strings.Cut(piece, ":")
		op, found := ops.Find(name)
		if !found {
			panic(piece)
		}
		x := api.Ins{Op: op}
		for _, digits := range strings.FieldsFunc(numbers, func(r rune) bool { return r == ',' }) {
			n, err := strconv.ParseInt(digits, 10, 64)
			if err != nil {
				panic(piece)
			}
			if name == "brtable" {
				x.L = append(x.L, int(n))
			} else {
				x.A = n
			}
		}
		count := 1
		if many {
			count, _ = strconv.Atoi(times)
		}
		code = append(code, slices.Repeat([]api.Ins{x}, count)...)
	}
	return code
}

func wordOf(x api.Ins) string {
	row, _ := ops.Of(x.Op)
	return row.Word
}

// told is a code as words; of a long one the beginning.
func told(code []api.Ins) string {
	var out []string
	for _, x := range code[:min(len(code), 90)] {
		s := wordOf(x)
		for i, n := range x.L {
			s += []string{":", ","}[min(i, 1)] + strconv.Itoa(n)
		}
		if x.A != 0 {
			s += ":" + strconv.FormatInt(x.A, 10)
		}
		out = append(out, s)
	}
	return strings.Join(out, " ")
}

// shapesOf: texts with blanks between them, a dot for the empty one; *9 behind a text: nine of them.
func shapesOf(text string) []string {
	var list []string
	for _, piece := range strings.Fields(text) {
		s, times, many := strings.Cut(piece, "*")
		count := 1
		if many {
			count, _ = strconv.Atoi(times)
		}
		list = append(list, slices.Repeat([]string{strings.TrimPrefix(s, ".")}, count)...)
	}
	return list
}

// consts is the code that puts those letters on the stack.
func consts(letters string) string {
	out := ""
	for _, letter := range letters {
		out += string(letter) + ".const "
	}
	return out
}

// rising is the shapes that consts makes on top of s, s itself the first one, each with a blank behind.
func rising(s, letters string) string {
	out := "." + s + " "
	for i := range letters {
		out += "." + s + letters[:i+1] + " "
	}
	return out
}

// of is a module whose first function has that type and that code; its locals behind the parameters are l and w. The types' numbers are those of validate's examples, and more.
func of(number int, code string) api.Module {
	return api.Module{
		Types: []api.Sig{
			{Results: "w"}, {Params: "w", Results: "w"}, {}, {Params: "wl", Results: "lw"}, {Results: "wl"},
			{Params: "l"}, {Params: "w", Results: "l"}, {Results: "wwwwwwww"}, {Params: "ww", Results: "ww"}, {Params: "w"}, {Results: "l"},
		},
		Hosts:   []int{3, 2, 7},
		Globals: []api.Global{{Letter: 'w'}, {Letter: 'l', Mutable: true}, {Letter: 'w', Mutable: true}, {Letter: 'l'}},
		Functions: []api.Function{
			{Type: number, Locals: "lw", Code: written(code)},
			{Type: 3, Code: written("get:1 get:0 end")},
			{Type: 5, Code: written("end")},
			{Type: 7, Code: written("trap end")},
		},
		First:   1,
		Most:    2,
		Data:    []api.Data{{At: 3, B: []byte{1, 2}}},
		Exports: []api.Export{{Name: "f"}, {Name: "g", Function: 3}},
	}
}

// agree: the answer is what the document's judgement says of the shapes, and (W5) whether they are those of the validator's table.
func agree(t *testing.T, m api.Module, function int, shapes []string) bool {
	t.Helper()
	code := m.Functions[function].Code
	got := judge.Holds(m, function, shapes)
	if faults := broken(m, function, shapes); got != (len(faults) == 0) {
		t.Fatalf("P11.1: %s, of %q: %t; broken: %q", told(code), shapes, got, faults)
	}
	table, e, pc := validate.Function(m, function)
	if got != (e == api.OK && slices.Equal(shapes, table.Shapes)) {
		t.Fatalf("W5: %s, of %q: %t; the validator: %d at %d, %q", told(code), shapes, got, e, pc, table.Shapes)
	}
	return got
}

// kept: the judgement holds of those shapes, and of none near them.
func kept(t *testing.T, number int, code, shapes string) {
	t.Helper()
	m, list := of(number, code), shapesOf(shapes)
	if !judge.Holds(m, 0, list) {
		t.Errorf("P11.1: %s, of %q: false", code, shapes)
		return
	}
	agree(t, m, 0, list)
	for _, other := range near(list) {
		if judge.Holds(m, 0, other) {
			t.Errorf("P11.1: %s, of %q: true, as of %q", code, other, list)
		}
	}
}

// just: the judgement does not hold of those shapes, and what is broken is just that.
func just(t *testing.T, number int, code, shapes string, faults ...string) {
	t.Helper()
	justOf(t, of(number, code), shapesOf(shapes), faults...)
}

func justOf(t *testing.T, m api.Module, shapes []string, faults ...string) {
	t.Helper()
	code := told(m.Functions[0].Code)
	if got := broken(m, 0, shapes); !slices.Equal(got, faults) {
		t.Errorf("%s, of %q: broken is %q, not %q", code, shapes, got, faults)
	}
	if judge.Holds(m, 0, shapes) {
		t.Errorf("P11.1: %s, of %q: true, though broken is %q", code, shapes, faults)
	}
}

// near are the lists that are one letter, or one text, from that one.
func near(shapes []string) [][]string {
	var lists [][]string
	full := strings.Repeat("w", 257)
	for pc, s := range shapes {
		var others []string
		for at := range len(s) + 1 {
			for _, letter := range []string{"w", "l", "x", "W", "\x00", "-"} {
				others = append(others, s[:at]+letter+s[at:])
				if at < len(s) && s[at:at+1] != letter {
					others = append(others, s[:at]+letter+s[at+1:])
				}
			}
			if at < len(s) {
				others = append(others, s[:at]+s[at+1:])
			}
		}
		others = append(others, full, s+full[len(s):], full[len(s):]+s, s+"\xff", s+"\u00ff")
		for _, other := range others {
			lists = append(lists, slices.Replace(slices.Clone(shapes), pc, pc+1, other))
		}
		lists = append(lists, slices.Delete(slices.Clone(shapes), pc, pc+1), slices.Insert(slices.Clone(shapes), pc, s), slices.Insert(slices.Clone(shapes), pc, ""))
	}
	return append(lists, append(slices.Clone(shapes), ""), append(slices.Clone(shapes), shapes[len(shapes)-1]), slices.Repeat(shapes, 2), nil, []string{})
}

// at2 is the name of a fault at that pc.
func fault(pc int, name string) string {
	return strconv.Itoa(pc) + " " + name
}

package judge_test

import (
	"math/rand"
	"slices"
	"strings"

	"flagon/api"
	"flagon/ops"
)

// Functions that are drawn together with their shapes: whoever draws says them all.

type drawer struct {
	r               *rand.Rand
	m               api.Module
	locals, results string
	code            []api.Ins
	shapes          []string
	left            int // about how many instructions may still come
}

func letters(r *rand.Rand, most int) string {
	out := ""
	for range r.Intn(most + 1) {
		out += "wl"[r.Intn(2):][:1]
	}
	return out
}

// drawn is a module whose functions may run, and the shapes of each.
func drawn(r *rand.Rand) (api.Module, [][]string) {
	m := api.Module{Types: []api.Sig{{}}}
	for range 1 + r.Intn(8) {
		x := api.Sig{Params: letters(r, 2), Results: letters(r, 2)}
		if r.Intn(3) == 0 {
			x.Results = x.Params
		}
		if !slices.Contains(m.Types, x) {
			m.Types = append(m.Types, x)
		}
	}
	for range r.Intn(4) {
		m.Hosts = append(m.Hosts, r.Intn(len(m.Types)))
	}
	for range r.Intn(5) {
		m.Globals = append(m.Globals, api.Global{Letter: "wl"[r.Intn(2)], Mutable: r.Intn(2) == 0})
	}
	for range 1 + r.Intn(3) {
		m.Functions = append(m.Functions, api.Function{Type: r.Intn(len(m.Types)), Locals: letters(r, 4)})
	}
	var all [][]string
	for i := range m.Functions {
		f := &m.Functions[i]
		x := m.Types[f.Type]
		d := &drawer{r: r, m: m, locals: x.Params + f.Locals, results: x.Results, left: r.Intn(50)}
		d.put(d.inside("", "", x.Results, []string{x.Results}, 1+r.Intn(5)), "end", 0)
		f.Code = d.code
		all = append(all, d.shapes)
	}
	return m, all
}

// put adds an instruction, with the shape at it.
func (d *drawer) put(s, word string, number int) {
	op, found := ops.Find(word)
	if !found {
		panic(word)
	}
	d.code = append(d.code, api.Ins{Op: op, A: int64(number)})
	d.shapes = append(d.shapes, s)
	d.left--
}

// push puts constants on top, and answers the shape then.
func (d *drawer) push(s, more string) string {
	for i := range more {
		d.put(s, more[i:i+1]+".const", d.r.Intn(9))
		s += more[i : i+1]
	}
	return s
}

// inside draws what leads from the shape s to that of the base and the results, which it answers; or to a way's end.
func (d *drawer) inside(base, s, results string, labels []string, depth int) string {
	for d.left > 0 && d.r.Intn(10) != 0 {
		if depth > 0 && d.r.Intn(4) == 0 {
			s = d.opener(base, s, labels, depth)
			continue
		}
		s = d.single(base, s, labels)
	}
	if d.r.Intn(3) == 0 {
		d.wayEnd(s, labels)
		return base + results
	}
	for !strings.HasPrefix(base+results, s) {
		d.put(s, "drop", 0)
		s = s[:len(s)-1]
	}
	return d.push(s, (base + results)[len(s):])
}

// opener draws a block, loop or if whose parameters are there, or are put there.
func (d *drawer) opener(base, s string, labels []string, depth int) string {
	number := d.r.Intn(len(d.m.Types))
	x := d.m.Types[number]
	if !strings.HasSuffix(s[len(base):], x.Params) {
		s = d.push(s, x.Params)
	}
	below := s[:len(s)-len(x.Params)]
	word, brings := []string{"block", "loop", "if"}[d.r.Intn(3)], x.Results
	switch word {
	case "if":
		d.put(d.push(s, "w"), word, number)
	case "loop":
		brings = x.Params
		fallthrough
	default:
		d.put(s, word, number)
	}
	inner := append([]string{brings}, labels...)
	left := d.inside(below, s, x.Results, inner, depth-1)
	if word == "if" && (x.Params != x.Results || d.r.Intn(2) == 0) {
		d.put(left, "else", 0)
		d.inside(below, s, x.Results, inner, depth-1)
	}
	d.put(left, "end", 0)
	return left
}

// wayEnd draws one, with what it asks for.
func (d *drawer) wayEnd(s string, labels []string) {
	number := d.r.Intn(len(labels))
	switch d.r.Intn(4) {
	case 0:
		d.put(s, "trap", 0)
	case 1:
		d.put(d.push(s, d.results), "return", 0)
	case 2:
		d.put(d.push(s, labels[number]), "br", number)
	default:
		d.put(d.push(s, labels[number]+"w"), "brtable", 0)
		list := []int{number}
		for range d.r.Intn(16) {
			if more := d.r.Intn(len(labels)); labels[more] == labels[number] {
				list = append(list, more)
			}
		}
		d.code[len(d.code)-1].L = list
	}
}

// single draws an instruction that goes on at the next pc, and puts there first what it takes, if that is missing.
func (d *drawer) single(base, s string, labels []string) string {
	all := ops.All()
	row, _ := ops.Of(all[d.r.Intn(len(all))])
	word, number, pops, pushes := row.Word, 0, row.Pops, row.Pushes
	if d.r.Intn(2) == 0 {
		word = []string{"get", "set", "tee", "gget", "gset", "call", "host", "brif", "drop", "select"}[d.r.Intn(10)]
		row.Plain = false
	}
	if !row.Plain {
		found := false
		if number, pops, pushes, found = d.effect(word, s[len(base):], labels); !found {
			return s
		}
	}
	if !strings.HasSuffix(s[len(base):], pops) {
		s = d.push(s, pops)
	}
	d.put(s, word, number)
	return s[:len(s)-len(pops)] + pushes
}

// effect draws the number of an instruction that is not plain, and tells what it takes off and puts on then; not, if there is none.
func (d *drawer) effect(word, above string, labels []string) (number int, pops, pushes string, found bool) {
	count := map[string]int{"call": len(d.m.Functions), "host": len(d.m.Hosts), "get": len(d.locals), "set": len(d.locals), "tee": len(d.locals), "gget": len(d.m.Globals), "gset": len(d.m.Globals), "brif": len(labels), "drop": len(above), "select": 2}[word]
	if count == 0 {
		return 0, "", "", false
	}
	number = d.r.Intn(count)
	y := ""
	switch word {
	case "get", "set", "tee":
		y = d.locals[number : number+1]
	case "gget", "gset":
		y = string(d.m.Globals[number].Letter)
	}
	switch word {
	case "call":
		x := d.m.Types[d.m.Functions[number].Type]
		return number, x.Params, x.Results, true
	case "host":
		x := d.m.Types[d.m.Hosts[number]]
		return number, x.Params, x.Results, true
	case "brif":
		return number, labels[number] + "w", labels[number], true
	case "drop":
		return 0, above[len(above)-1:], "", true
	case "select":
		y = "wl"[number : number+1]
		return 0, y + y + "w", y, true
	case "get", "gget":
		return number, "", y, true
	case "tee":
		return number, y, y, true
	}
	return number, y, "", word == "set" || d.m.Globals[number].Mutable
}

// changed is the function's code with an instruction changed, left out, doubled or put in, and its shapes changed alike.
func changed(r *rand.Rand, code []api.Ins, shapes []string) ([]api.Ins, []string) {
	code, shapes = slices.Clone(code), slices.Clone(shapes)
	all := ops.All()
	row, _ := ops.Of(all[r.Intn(len(all))])
	x := api.Ins{Op: row.Op}
	switch row.Takes {
	case ops.None:
	case ops.Labels:
		for range 1 + r.Intn(4) {
			x.L = append(x.L, r.Intn(5))
		}
	default:
		x.A = int64(r.Intn(9))
	}
	at := r.Intn(len(code))
	switch r.Intn(5) {
	case 0:
		code[at] = x
	case 1:
		return slices.Delete(code, at, at+1), slices.Delete(shapes, at, at+1)
	case 2:
		return slices.Insert(code, at, x), slices.Insert(shapes, at, shapes[at])
	case 3:
		return slices.Insert(code, at, code[at]), slices.Insert(shapes, at, shapes[at])
	default:
		if code[at].A > 0 {
			code[at].A += int64(r.Intn(3) - 1)
		}
	}
	return code, shapes
}

// otherShapes is a list near that one: a letter or a text another one, or a letter changed, put in or left out over a range of pcs, so that most places still fit the next one.
func otherShapes(r *rand.Rand, shapes []string) []string {
	out := slices.Clone(shapes)
	from := r.Intn(len(out))
	to := from + 1
	if r.Intn(2) == 0 {
		to += r.Intn(len(out) - from)
	}
	at, kind, letter := r.Intn(3), r.Intn(4), "wl"[r.Intn(2):][:1]
	top := r.Intn(2) == 0
	for pc := from; pc < to; pc++ {
		s := out[pc]
		cut := min(at, len(s))
		if top {
			cut = len(s) - cut
		}
		switch {
		case kind == 0:
			s = s[:cut] + letter + s[cut:]
		case kind == 1 && cut < len(s):
			s = s[:cut] + s[cut+1:]
		case kind == 2 && cut < len(s):
			s = s[:cut] + letter + s[cut+1:]
		case kind == 3:
			s = shapes[r.Intn(len(shapes))]
		}
		out[pc] = s
	}
	return out
}

package validate_test

import (
	"math"
	"strconv"
	"strings"
	"testing"

	"flagon/api"
	"flagon/validate"
)

// TestIfWithoutElse: it may be passed by, so what it leaves must be what it finds.
func TestIfWithoutElse(t *testing.T) {
	taken(t, 2, "w.const if:2 end end", ". w . .")
	taken(t, 2, "w.const if:2 nop end end", ". w . . .")
	taken(t, 0, "w.const w.const if:1 w.eqz end end", ". w ww w w w")
	taken(t, 2, "w.const w.const w.const if:8 end drop drop end", ". w ww www ww ww w .")
	refused(t, 0, "w.const if:0 w.const end end", api.ErrElse, 3)
	refused(t, 2, "l.const w.const if:5 drop end end", api.ErrElse, 4)
	refused(t, 2, "w.const w.const if:6 drop l.const end drop end", api.ErrElse, 5)
	refused(t, 2, "w.const l.const w.const if:3 drop drop l.const w.const end drop drop end", api.ErrElse, 8)
	refused(t, 0, "w.const if:0 trap end end", api.ErrElse, 3)
	taken(t, 2, "l.const w.const if:5 drop else drop end end", ". l lw l . l . .")
	// A block and a loop are never passed by.
	taken(t, 0, "block:0 w.const end end", ". . w w")
	taken(t, 0, "loop:0 w.const end end", ". . w w")
}

// labelled is an opener whose label, at place 0, brings what its type's results or parameters are.
type labelled struct{ ahead, opener, behind, brings string }

func labels() []labelled {
	return []labelled{
		{"", "block:0", "drop", "w"},
		{"", "block:4", "drop drop", "wl"},
		{"w.const", "block:6", "drop", "l"},
		{"", "block:2", "", ""},
		{"", "loop:0", "drop", ""},
		{"w.const", "loop:6", "drop", "w"},
		{"l.const", "loop:5", "", "l"},
		{"w.const l.const", "loop:3", "drop drop", "wl"},
		{"w.const", "if:0", "drop", "w"},
		{"w.const w.const", "if:6", "drop", "l"},
		{"w.const l.const w.const", "if:3", "drop drop", "lw"},
	}
}

// in is the code between an opener and its end, and both halves of an if.
func (x labelled) in(code string) string {
	if strings.HasPrefix(x.opener, "if") {
		code += " else trap"
	}
	return x.ahead + " " + x.opener + " " + code + " end " + x.behind
}

// other is a text of letters that does not end with those that are given.
func other(letters string) string {
	if strings.HasSuffix(letters, "w") {
		return letters[:len(letters)-1] + "l"
	}
	return letters[:len(letters)-1] + "w"
}

// TestLabels: the letters that a branch to each kind of opener, and to the body, brings; from within it, and from further in.
func TestLabels(t *testing.T) {
	for _, x := range labels() {
		pc := len(written(x.ahead)) + 1
		for within, number := range map[string]string{"%": "0", "block:2 % end trap": "1", "loop:2 % end trap": "1", "w.const if:2 block:2 % end trap else trap end trap": "2"} {
			inner, _, _ := strings.Cut(within, "%")
			place := pc + len(written(inner))
			for _, way := range []string{"br:" + number, "w.const brif:" + number + " trap", "w.const brtable:" + number} {
				at := len(strings.Fields(strings.TrimSuffix(way, " trap"))) - 1
				held := func(letters string) string {
					return x.in(strings.Replace(within, "%", consts(letters)+way, 1)) + " end"
				}
				for _, more := range []string{"", "w", "l", "lw"} {
					if got := asked(of(2, held(more+x.brings)), 0); got.e != api.OK {
						t.Errorf("P10.1: %s: %d at %d", held(more+x.brings), got.e, got.pc)
					}
				}
				if x.brings == "" {
					continue
				}
				refused(t, 2, held(other(x.brings)), api.ErrStack, place+len(x.brings)+at)
				if inner == "" { // what the opener took is still there
					continue
				}
				refused(t, 2, held(x.brings[1:]), api.ErrStack, place+len(x.brings)-1+at)
			}
		}
	}
	for _, results := range []struct {
		number int
		brings string
	}{{0, "w"}, {2, ""}, {4, "wl"}, {1, "w"}, {5, ""}, {6, "l"}, {7, "wwwwwwww"}} {
		for _, way := range []string{"br:0", "return", "w.const brif:0", "w.const brtable:0,0"} {
			behind := " end"
			if strings.Contains(way, "brif") {
				behind = " trap end"
			}
			if got := asked(of(results.number, consts(results.brings)+way+behind), 0); got.e != api.OK {
				t.Errorf("P10.1: %s, which brings %s: %d, %d", way, results.brings, got.e, got.pc)
			}
			if results.brings != "" {
				at := len(results.brings) + len(strings.Fields(way)) - 1
				refused(t, results.number, consts(other(results.brings))+way+behind, api.ErrStack, at)
				refused(t, results.number, consts(results.brings[1:])+way+behind, api.ErrStack, at-1)
			}
		}
	}
}

// TestLabelNumbers: the last label's number is the body's; the first that is none's, and one far beyond.
func TestLabelNumbers(t *testing.T) {
	for depth := range 33 {
		open, ends := many("block:2", depth), many("end", depth)
		if depth == 0 {
			open, ends = "", ""
		}
		for number, e := range map[int]api.Errno{depth: api.OK, depth + 1: api.ErrLabel, depth + 2: api.ErrLabel, 1 << 30: api.ErrLabel, math.MaxInt32: api.ErrLabel} {
			for _, way := range []string{"br:%", "w.const brif:%", "w.const brtable:%", "w.const brtable:0,%", "w.const brtable:%,0"} {
				way = strings.Replace(way, "%", strconv.Itoa(number), 1)
				got := asked(of(2, open+way+" "+ends+" end"), 0)
				if want := depth + len(written(way)) - 1; got.e != e || e != api.OK && got.pc != want {
					t.Errorf("P10.1: %s within %d: %d at %d", way, depth, got.e, got.pc)
				}
			}
		}
	}
}

// TestBrtables: one label and sixteen; labels that bring unlike letters, wherever they stand; one that is none's, wherever.
func TestBrtables(t *testing.T) {
	// The labels: 0 brings w, 1 l, 2 w, 3 nothing, and the body (4) w.
	in := func(ahead, numbers string) string {
		return "block:2 block:0 w.const block:6 drop block:0 " + ahead + " brtable:" + numbers + " end drop trap end trap end trap end trap end"
	}
	taken(t, 0, in("w.const w.const", "0"), ". . . w w . . w ww w w . l l w w . . w")
	all := strings.Repeat("0,2,4,", 5)
	taken(t, 0, in("w.const w.const", all+"2"), ". . . w w . . w ww w w . l l w w . . w")
	taken(t, 0, in("l.const w.const", "1,1"), ". . . w w . . l lw w w . l l w w . . w")
	taken(t, 0, in("w.const", "3"), ". . . w w . . w w w . l l w w . . w")
	for _, numbers := range []string{"0,1", "1,0", "0,0,1", "0,2,4,3", "3,0", "1,3,1", all + "1"} {
		refused(t, 0, in("w.const w.const", numbers), api.ErrLabels, 8)
		refused(t, 0, in("", numbers), api.ErrLabels, 6)
	}
	for _, numbers := range []string{"5", "0,5", "5,0", "0,1,5", "1,0,5,1", all + "2147483647"} {
		refused(t, 0, in("w.const w.const", numbers), api.ErrLabel, 8)
		refused(t, 0, in("", numbers), api.ErrLabel, 6)
	}
	refused(t, 0, in("w.const", "0"), api.ErrStack, 7)
	refused(t, 0, in("l.const w.const", "0,2"), api.ErrStack, 8)
	refused(t, 0, in("w.const l.const", "0,2"), api.ErrStack, 8)
}

// TestNumbers: numbers of types, functions, hosts, locals and globals: the last one, the first that is none's, and far beyond.
func TestNumbers(t *testing.T) {
	counts := map[string]int{"block:% end drop*2": 9, "loop:% end drop*2": 9, "w.const if:% end drop*2": 9, "call:%": 4, "host:%": 3, "get:% drop": 2, "set:%": 2, "tee:% drop": 2, "gget:% drop": 4, "gset:%": 4}
	ahead := map[string]string{"b": "w.const*2 ", "l": "w.const*2 ", "w": "w.const*2 ", "s": "w.const ", "t": "w.const "}
	for form, count := range counts {
		word, _, _ := strings.Cut(form, "%")
		place := len(written(ahead[form[:1]])) + len(written(strings.TrimSuffix(word, ":"))) - 1
		for _, number := range []int{count, count + 1, 127, 1 << 20, math.MaxInt32} {
			code := ahead[form[:1]] + strings.Replace(form, "%", strconv.Itoa(number), 1) + " end"
			refused(t, 2, code, api.ErrIndex, place)
		}
		last := ahead[form[:1]] + strings.Replace(form, "%", strconv.Itoa(count-1), 1) + " trap end"
		got := asked(of(2, last), 0)
		if word == "gset:" && (got.e != api.ErrMutable || got.pc != 0) || word != "gset:" && got.e != api.OK {
			t.Errorf("P10.1: %s: %d at %d", last, got.e, got.pc)
		}
	}
	// Locals: parameters first.
	taken(t, 3, "get:0 drop get:1 drop get:2 drop get:3 drop get:1 get:0 end", ". w . l . l . w . l lw")
	refused(t, 3, "get:4 end", api.ErrIndex, 0)
	for _, locals := range []string{"", "l", strings.Repeat("w", 62)} {
		m := of(3, "")
		m.Functions[0].Locals = locals
		for number, e := range map[int]api.Errno{1 + len(locals): api.OK, 2 + len(locals): api.ErrIndex} {
			m.Functions[0].Code = written("get:" + strconv.Itoa(number) + " trap end")
			if got := asked(m, 0); got.e != e || got.pc != 0 {
				t.Errorf("P10.1: get %d of %d locals: %d at %d", number, 2+len(locals), got.e, got.pc)
			}
		}
	}
}

// TestFunctionNumbers: the numbers of functions that there are, and others.
func TestFunctionNumbers(t *testing.T) {
	m := one("w.const end")
	for _, number := range []int{-1, -2, 4, 5, 1000, math.MaxInt32, math.MinInt32, math.MaxInt, math.MinInt} {
		if got := asked(m, number); got.e != api.ErrArg || got.pc != -1 || !sameTable(got.table, api.Table{}) {
			t.Errorf("P10.1: function %d: %v", number, got)
		}
	}
	for number, shapes := range []string{". w", ". l lw", ".", ". wwwwwwww"} {
		if got := asked(m, number); got.e != api.OK || got.pc != 0 || strings.Join(got.table.Shapes, " ") != strings.Join(shapesOf(shapes), " ") {
			t.Errorf("P10.1: function %d: %v", number, got)
		}
	}
	for _, number := range []int{-1, 0, 1, math.MaxInt} {
		if got := asked(api.Module{}, number); got.e != api.ErrArg || got.pc != -1 {
			t.Errorf("P10.1: function %d of none: %v", number, got)
		}
	}
	if tables, e, number, pc := validate.Module(api.Module{}); e != api.OK || number != 0 || pc != 0 || len(tables) != 0 {
		t.Errorf("P10.2: a module of nothing: %v, %d, %d, %d", tables, e, number, pc)
	}
}

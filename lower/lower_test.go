package lower_test

import (
	"maps"
	"slices"
	"strings"
	"testing"

	"flagon/api"
	"flagon/lower"
)

// row is a function, and the ways of its lines.
type row struct{ sig, locals, code, want string }

func rows(t *testing.T, list ...row) {
	t.Helper()
	for _, x := range list {
		m := of(x.sig, x.locals, x.code)
		if got := showAll(asked(t, m, 0)); got != x.want {
			t.Errorf("P18.1: %s: %s, not %s", x.code, got, x.want)
		}
		hold(t, m)
	}
}

// TestExamples: those of the chapter.
func TestExamples(t *testing.T) {
	rows(t,
		row{">", "", "w.const:0 if:> nop end end", "1; 2 3; 3; 4; out:0"},
		row{">", "", "loop:> br:0 end end", "1; 1:0@0; 3; out:0"},
	)
	got := asked(t, of(">", "", "loop:> br:0 end end"), 0)
	want := []lower.Line{
		{Op: 0x03, Ways: []lower.Way{{1, 0, -1}}, Start: 0, Left: 1},
		{Op: 0x07, Ways: []lower.Way{{1, 0, 0}}, Start: 1, Left: 1},
		{Op: 0x06, Ways: []lower.Way{{3, 0, -1}}, Start: 2, Left: 1},
		{Op: 0x06, Ways: []lower.Way{{-1, 0, 0}}, Start: 3, Left: 1},
	}
	if !sameLines(got, want) {
		t.Errorf("P18.1: %v, not %v", got, want)
	}
}

// TestIf: on, or behind its else; or to its end, not behind it, if it has none. Nothing is dropped, whatever its type is.
func TestIf(t *testing.T) {
	rows(t,
		row{">", "", "w.const if:> end end", "1; 2 2; 3; out:0"},
		row{">", "", "w.const if:> else end end", "1; 2 3; 3; 4; out:0"},
		row{">", "", "w.const if:> nop else nop end end", "1; 2 4; 3; 5; 5; 6; out:0"},
		row{">lww", "", "l.const w.const w.const w.const if:ww>ww nop nop end end", "1; 2; 3; 4; 5 7; 6; 7; 8; out:3"},
		row{">lww", "", "l.const w.const w.const if:w>ww w.const else w.const end end", "1; 2; 3; 4 6; 5; 7; 7; 8; out:3"},
		row{">", "", "w.const if:> w.const if:> nop else end else w.const if:> nop end end end", "1; 2 8; 3; 4 6; 5; 6; 7; 12; 9; 10 11; 11; 12; 13; out:0"},
		row{">w", "", "w.const if:>w w.const else trap end end", "1; 2 4; 3; 5; ; 6; out:1"},
		row{">w", "", "w.const if:>w trap else w.const end end", "1; 2 4; ; 5; 5; 6; out:1"},
	)
}

// TestBr: to each kind of label, with several values that stay, and others that are dropped, or lie below.
func TestBr(t *testing.T) {
	rows(t,
		row{">lww", "", "l.const w.const block:w>ww w.const w.const w.const br:0 end end", "1; 2; 3; 4; 5; 6; 8:2@1; 8; out:3"},
		row{">lww", "", "l.const w.const loop:w>ww l.const w.const br:0 end end", "1; 2; 3; 4; 5; 3:1@1; 7; out:3"},
		row{">lww", "", "l.const w.const w.const if:w>ww w.const br:0 else l.const w.const w.const br:0 end end", "1; 2; 3; 4 7; 5; 12:2@1; 11; 8; 9; 10; 12:2@1; 12; out:3"},
		row{">lw", "", "w.const l.const w.const br:0 end", "1; 2; 3; out:2; out:2"},
		row{">lw", "", "w.const block:> loop:>w l.const w.const br:2 end drop end l.const w.const br:0 end", "1; 2; 3; 4; 5; out:2; 7; 8; 9; 10; 11; out:2; out:2"},
		row{">", "", "block:> br:0 end end", "1; 3:0@0; 3; out:0"},
		row{">", "", "w.const if:> br:0 end end", "1; 2 3; 4:0@0; 4; out:0"},
		row{">", "", "w.const if:> br:1 else br:0 end end", "1; 2 4; out:0; 5; 6:0@0; 6; out:0"},
		row{">", "", "br:0 end", "out:0; out:0"},
		row{">wl", "", "w.const block:>l w.const w.const loop:ww>l block:>w w.const w.const br:1 end drop trap end br:0 end end", "1; 2; 3; 4; 5; 6; 7; 8; 5:2@1; 10; 11; ; 13; 15:1@1; 15; out:2"},
	)
}

// TestBrif: its label's way first, then on with all that is there.
func TestBrif(t *testing.T) {
	rows(t,
		row{">lww", "", "l.const w.const block:w>ww w.const w.const brif:0 nop end end", "1; 2; 3; 4; 5; 8:2@1 6; 7; 8; out:3"},
		row{">lw", "", "l.const w.const loop:w>w w.const brif:0 end end", "1; 2; 3; 4; 3:1@1 5; 6; out:2"},
		row{">w", "", "w.const if:>w w.const w.const brif:0 else w.const w.const brif:0 end end", "1; 2 6; 3; 4; 10:1@0 5; 9; 7; 8; 10:1@0 9; 10; out:1"},
		row{">lw", "", "l.const w.const w.const brif:0 end", "1; 2; 3; out:2 4; out:2"},
		row{">lw", "", "l.const w.const block:> l.const w.const w.const brif:1 drop drop end end", "1; 2; 3; 4; 5; 6; out:2 7; 8; 9; 10; out:2"},
		row{">", "", "block:> w.const brif:0 end end", "1; 2; 4:0@0 3; 4; out:0"},
	)
}

// TestBrtable: the ways of its labels in their order, each as often as it is named.
func TestBrtable(t *testing.T) {
	rows(t,
		row{">", "", "w.const brtable:0 end", "1; out:0; out:0"},
		row{">w", "", "w.const block:>w l.const w.const w.const brtable:0,1,0 end drop end", "1; 2; 3; 4; 5; 7:1@1 out:1 7:1@1; 7; 8; out:1"},
		row{">", "", "block:> loop:> w.const if:> w.const brtable:2,1,0,3,3,2,1,0 end end end end", "1; 2; 3; 4 6; 5; 9:0@0 2:0@0 7:0@0 out:0 out:0 9:0@0 2:0@0 7:0@0; 7; 8; 9; out:0"},
		row{">w", "", "l.const w.const loop:w>w w.const w.const brtable:0,0,1 end drop drop w.const end", "1; 2; 3; 4; 5; 3:1@1 3:1@1 out:1; 7; 8; 9; 10; out:1"},
		row{">ll", "", "w.const block:>ll l.const l.const block:>ll w.const l.const l.const w.const brtable:1,2,0,2,1 end w.const brtable:0,1 end return end", "1; 2; 3; 4; 5; 6; 7; 8; 9; 14:2@1 out:2 11:2@3 out:2 14:2@1; 11; 12; 14:2@1 out:2; 14; out:2; out:2"},
	)
}

// TestOut: return and the body's end: as many as the function has results, above nothing.
func TestOut(t *testing.T) {
	rows(t,
		row{">", "", "end", "out:0"},
		row{">", "", "return end", "out:0; out:0"},
		row{">lw", "", "w.const l.const w.const return end", "1; 2; 3; out:2; out:2"},
		row{"wl>w", "", "l.const loop:> block:> w.const return end end drop get:0 end", "1; 2; 3; 4; out:1; 6; 7; 8; 9; out:1"},
		row{">wlwlwlwl", "", consts("wlwlwlwl") + "end", "1; 2; 3; 4; 5; 6; 7; 8; out:8"},
		row{">wlwlwlwl", "", "block:> " + consts("wlwlwlwl") + "return end trap end", "1; 2; 3; 4; 5; 6; 7; 8; 9; out:8; 11; ; out:8"},
		row{"lll>", "ww", "w.const l.const return end", "1; 2; out:0; out:0"},
	)
}

// TestTrap: no way, wherever it stands.
func TestTrap(t *testing.T) {
	rows(t,
		row{">", "", "trap end", "; out:0"},
		row{">ll", "", "trap end", "; out:2"},
		row{">", "", "block:> trap end loop:> trap end w.const if:> trap else trap end end", "1; ; 3; 4; ; 6; 7; 8 10; ; 11; ; 12; out:0"},
	)
}

// TestOn: all others lead to the next pc, with their opcode and their number, whatever they take off and put on.
func TestOn(t *testing.T) {
	codes := map[string]string{
		"block": "block:> end", "loop": "loop:> end", "end": "block:> end",
		"call": "w.const l.const call:1 drop", "host": "l.const host:1 drop drop",
		"drop": "l.const drop", "select": "l.const l.const w.const select drop",
		"get": "get:1 drop", "set": "l.const set:1", "tee": "l.const tee:1 drop", "gget": "gget:1 drop", "gset": "l.const gset:1",
		"w.const": "w.const:-7 drop", "l.const": "l.const:-9223372036854775808 drop",
	}
	for word, x := range plain {
		number := ""
		if strings.Contains(word, ".load") || strings.Contains(word, ".store") {
			number = ":4294967295"
		}
		if codes[word] == "" {
			codes[word] = consts(x.pops) + word + number + strings.Repeat(" drop", len(x.pushes))
		}
	}
	special := strings.Fields("trap if else br brif brtable return")
	for _, word := range wordOf {
		if codes[word] == "" && !slices.Contains(special, word) {
			t.Errorf("%s is not met", word)
		}
	}
	for _, word := range slices.Sorted(maps.Keys(codes)) {
		m := api.Module{Hosts: []int{0, 1}, Types: []api.Sig{{}, {Params: "l", Results: "wl"}}, Globals: []api.Global{{Letter: 'w'}, {Letter: 'l', Mutable: true}}, Most: 1}
		put(&m, "w>", "l", codes[word]+" end")
		put(&m, "wl>l", "", "get:1 end")
		lines := asked(t, m, 0)
		for pc, x := range m.Functions[0].Code[:len(lines)-1] {
			if l := lines[pc]; l.Op != x.Op || l.A != x.A || !slices.Equal(l.Ways, []lower.Way{{pc + 1, 0, -1}}) {
				t.Errorf("P18.1: %s, at %d: %v", codes[word], pc, l)
			}
		}
		hold(t, m)
	}
}

// TestNumbers: A of each line is the instruction's, at both ends of what it may be; of a brtable, an else and the like it is 0.
func TestNumbers(t *testing.T) {
	m := of("w>", strings.Repeat("l", 63), "w.const:2147483647 w.const:-2147483648 w.store:4294967295 l.const:9223372036854775807 l.const:-9223372036854775808 l.eq drop get:63 set:63 get:0 if:>w w.const w.const brtable:0,0 else w.const end drop end")
	for at, l := range asked(t, m, 0) {
		if x := m.Functions[0].Code[at]; l.Op != x.Op || l.A != x.A {
			t.Errorf("P18.1: %d: %v, not %v", at, l, x)
		}
	}
	hold(t, m)
}

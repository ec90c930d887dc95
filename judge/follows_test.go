package judge_test

import (
	"math/rand"
	"slices"
	"strings"
	"testing"

	"flagon/api"
	"flagon/control"
	"flagon/judge"
	"flagon/module"
	"flagon/validate"
)

// TestDrawn: functions that are drawn with their shapes: the judgement holds of these, and of none near them.
func TestDrawn(t *testing.T) {
	r := rand.New(rand.NewSource(111))
	for n := range 700 {
		m, all := drawn(r)
		for function, shapes := range all {
			if !agree(t, m, function, shapes) {
				t.Fatalf("P11.1: %s, of %q: false", told(m.Functions[function].Code), shapes)
			}
			for range 12 {
				agree(t, m, function, otherShapes(r, shapes))
			}
			if n%70 > 0 {
				continue
			}
			for _, others := range near(shapes) {
				if judge.Holds(m, function, others) {
					t.Fatalf("W5: %s, of %q: true, as of %q", told(m.Functions[function].Code), others, shapes)
				}
			}
		}
	}
}

// TestChanged: the same codes, changed at one to three places; their old shapes, those near, and those of the validator, if it takes them.
func TestChanged(t *testing.T) {
	r := rand.New(rand.NewSource(112))
	taken, refused := 0, 0
	for range 2500 {
		m, all := drawn(r)
		function := r.Intn(len(all))
		f := &m.Functions[function]
		shapes := all[function]
		for range 1 + r.Intn(3) {
			if len(f.Code) > 1 {
				f.Code, shapes = changed(r, f.Code, shapes)
			}
		}
		agree(t, m, function, shapes)
		for range 10 {
			agree(t, m, function, otherShapes(r, shapes))
		}
		table, e, _ := validate.Function(m, function)
		if e != api.OK {
			refused++
			continue
		}
		taken++
		if !agree(t, m, function, table.Shapes) {
			t.Fatalf("W5: %s, of its table: false", told(f.Code))
		}
		for range 10 {
			agree(t, m, function, otherShapes(r, table.Shapes))
		}
	}
	if taken < 200 || refused < 200 {
		t.Errorf("%d are taken, %d refused", taken, refused)
	}
}

// allCodes calls on every code of up to so many of those words, and an end behind them, that control.Map takes.
func allCodes(words string, most int, on func(code []api.Ins)) {
	end := written("end")
	var grow func(code []api.Ins)
	grow = func(code []api.Ins) {
		whole := append(slices.Clone(code), end...)
		if _, _, _, e, _ := control.Map(whole); e == api.OK {
			on(whole)
		}
		if len(code) == most {
			return
		}
		for _, word := range strings.Fields(words) {
			grow(append(slices.Clone(code), written(word)...))
		}
	}
	grow(nil)
}

// TestShort: of each short code, every list of low shapes that begins with an empty one: the judgement holds of some just if the validator takes the code, then of its table's alone.
func TestShort(t *testing.T) {
	m := api.Module{Types: []api.Sig{{Results: "w"}, {Params: "w", Results: "w"}, {}, {Params: "w", Results: "l"}}, Functions: []api.Function{{Locals: "l"}}}
	for most, words := range map[int]string{
		2: "trap nop block:0 block:1 block:2 block:3 loop:1 loop:3 if:0 if:1 if:2 if:4 else end br:0 br:1 brif:0 brtable:0 brtable:0,1 return call:0 call:1 host:0 drop select get:0 get:1 set:0 tee:0 gget:0 gset:0 w.const l.const w.eqz w.add l.store",
		3: "w.const l.const drop block:1 block:2 if:2 if:0 else end br:0 br:1 trap get:0 set:0",
		4: "w.const drop if:1 if:2 else end trap",
	} {
		taken := 0
		allCodes(words, most, func(code []api.Ins) {
			m.Functions[0].Code = code
			table, e, pc := validate.Function(m, 0)
			found := 0
			lowFrom(make([]string, len(code)), 1, func(list []string) {
				if !judge.Holds(m, 0, list) {
					return
				}
				found++
				if e != api.OK || !slices.Equal(list, table.Shapes) {
					t.Fatalf("W5: %s: %d at %d, %q, and the judgement holds of %q", told(code), e, pc, table.Shapes, list)
				}
			})
			if e == api.OK && table.Highest <= 2 && found != 1 {
				t.Fatalf("W5: %s: %q, and the judgement holds of %d low lists", told(code), table.Shapes, found)
			}
			taken += found
		})
		if taken < 10 {
			t.Errorf("of up to %d words the judgement holds of %d codes", most, taken)
		}
	}
}

// TestBytes: W5 as it is said of bytes: those that validate.Bytes takes are a module's own, and the judgement holds of the tables of all its functions; of those that it refuses at a function, it holds of nothing that is near there.
func TestBytes(t *testing.T) {
	r := rand.New(rand.NewSource(113))
	for n := range 600 {
		m, all := drawn(r)
		if n%2 == 0 && len(m.Functions[0].Code) > 1 {
			m.Functions[0].Code, all[0] = changed(r, m.Functions[0].Code, all[0])
		}
		b, e := module.Encode(m)
		if e != api.OK {
			continue
		}
		got, tables, e, function, _ := validate.Bytes(b)
		if e != api.OK {
			if judge.Holds(m, function, all[function]) {
				t.Fatalf("W5: %x is refused (%d), and the judgement holds of %q", b, e, all[function])
			}
			continue
		}
		for function, table := range tables {
			if !judge.Holds(got, function, table.Shapes) {
				t.Fatalf("W5: %x is taken, and the judgement does not hold of function %d, %q", b, function, table.Shapes)
			}
		}
	}
}

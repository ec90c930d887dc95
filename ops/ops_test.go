package ops_test

import (
	"slices"
	"strings"
	"testing"

	"flagon/ops"
)

// numbers is the words that are there for each letter, in the order of their opcodes.
func numbers() []string {
	return []string{"eqz", "eq", "ne", "lts", "ltu", "les", "leu", "clz", "ctz", "pop", "add", "sub", "mul", "divs", "divu", "rems", "remu", "and", "or", "xor", "shl", "shrs", "shru", "rotl", "rotr"}
}

// rows is the document's table, written out row by row.
func rows() []ops.Row {
	out := []ops.Row{
		{0x00, "trap", ops.None, "", "", false},
		{0x01, "nop", ops.None, "", "", true},
		{0x02, "block", ops.Type, "", "", false},
		{0x03, "loop", ops.Type, "", "", false},
		{0x04, "if", ops.Type, "", "", false},
		{0x05, "else", ops.None, "", "", false},
		{0x06, "end", ops.None, "", "", false},
		{0x07, "br", ops.Label, "", "", false},
		{0x08, "brif", ops.Label, "", "", false},
		{0x09, "brtable", ops.Labels, "", "", false},
		{0x0a, "return", ops.None, "", "", false},
		{0x0b, "call", ops.Func, "", "", false},
		{0x0c, "host", ops.Host, "", "", false},
		{0x10, "drop", ops.None, "", "", false},
		{0x11, "select", ops.None, "", "", false},
		{0x12, "get", ops.Local, "", "", false},
		{0x13, "set", ops.Local, "", "", false},
		{0x14, "tee", ops.Local, "", "", false},
		{0x15, "gget", ops.Global, "", "", false},
		{0x16, "gset", ops.Global, "", "", false},
		{0x18, "w.const", ops.Const, "", "w", true},
		{0x19, "l.const", ops.Const, "", "l", true},
		{0x20, "w.load8u", ops.Offset, "w", "w", true},
		{0x21, "w.load8s", ops.Offset, "w", "w", true},
		{0x22, "w.load16u", ops.Offset, "w", "w", true},
		{0x23, "w.load16s", ops.Offset, "w", "w", true},
		{0x24, "w.load", ops.Offset, "w", "w", true},
		{0x25, "l.load", ops.Offset, "w", "l", true},
		{0x26, "w.store8", ops.Offset, "ww", "", true},
		{0x27, "w.store16", ops.Offset, "ww", "", true},
		{0x28, "w.store", ops.Offset, "ww", "", true},
		{0x29, "l.store", ops.Offset, "wl", "", true},
		{0x2a, "size", ops.None, "", "w", true},
		{0x2b, "grow", ops.None, "w", "w", true},
	}
	for at, word := range numbers() {
		w := ops.Row{byte(0x30 + at), "w." + word, ops.None, "ww", "w", true}
		l := ops.Row{byte(0x50 + at), "l." + word, ops.None, "ll", "l", true}
		switch word {
		case "eqz":
			w.Pops, l.Pops, l.Pushes = "w", "l", "w"
		case "clz", "ctz", "pop":
			w.Pops, l.Pops = "w", "l"
		case "eq", "ne", "lts", "ltu", "les", "leu":
			l.Pushes = "w"
		}
		out = append(out, w, l)
	}
	out = append(out,
		ops.Row{0x70, "w.wrap", ops.None, "l", "w", true},
		ops.Row{0x71, "l.extends", ops.None, "w", "l", true},
		ops.Row{0x72, "l.extendu", ops.None, "w", "l", true},
		ops.Row{0x73, "w.ext8", ops.None, "w", "w", true},
		ops.Row{0x74, "w.ext16", ops.None, "w", "w", true},
		ops.Row{0x75, "l.ext32", ops.None, "l", "l", true},
	)
	slices.SortFunc(out, func(a, b ops.Row) int { return int(a.Op) - int(b.Op) })
	return out
}

// opcodes is what stands in the document's table, by ranges.
func opcodes() []byte {
	var out []byte
	for _, r := range [][2]int{{0x00, 0x0c}, {0x10, 0x16}, {0x18, 0x19}, {0x20, 0x2b}, {0x30, 0x48}, {0x50, 0x68}, {0x70, 0x75}} {
		for op := r[0]; op <= r[1]; op++ {
			out = append(out, byte(op))
		}
	}
	return out
}

func words() []string {
	var out []string
	for _, r := range rows() {
		out = append(out, r.Word)
	}
	return out
}

// notWords is texts near to words that are none themselves.
func notWords() []string {
	all := words()
	near := []string{"", " ", ".", "w", "l", "w.", "l.", "-", "\x00", "W.add", "w.Add", "NOP", "x.add", ".add", "ww.add", "w..add", "w.w.add", "l.w.add", "w .add", "w. add",
		"l.wrap", "w.extends", "w.extendu", "l.ext8", "l.ext16", "w.ext32", "l.load8u", "l.load16s", "l.store8", "l.store16", "w.size", "l.grow", "w.nop", "l.trap", "const", "load", "store", "wrap", "ext8",
		"eqz eq", "w.eqz eq", "w.eqz l.eq", "trap nop", "host drop", "gset w.const", "w.const l.const", "size grow", "rotl rotr", "w.rotl rotr", "w.rotl w.rotr", "w.\u0430dd", "nop\u0301", "\xff"}
	near = append(near, numbers()...)
	near = append(near, strings.Join(all, " "), strings.Join(numbers(), " "), "w."+strings.Join(numbers(), " "))
	for at, word := range all {
		near = append(near, word+" ", " "+word, word+"\n", word+"\x00", word+".", word+word, word+"x", "x"+word, "w."+word, "l."+word, strings.ToUpper(word), word+" "+all[(at+1)%len(all)])
		for cut := range word {
			near = append(near, word[:cut], word[cut:][1:], word[:cut]+word[cut+1:], word[:cut]+" "+word[cut:])
		}
	}
	var out []string
	for _, s := range near {
		if !slices.Contains(all, s) {
			out = append(out, s)
		}
	}
	return out
}

func TestTable(t *testing.T) {
	for at, r := range rows() {
		if want := opcodes(); len(want) != 90 || len(rows()) != 90 || r.Op != want[at] {
			t.Fatalf("the table of this test itself: %d rows, %02x at %d", len(rows()), r.Op, at)
		}
	}
}

func TestTakesAreTheirNumbers(t *testing.T) {
	got := []int8{ops.None, ops.Type, ops.Label, ops.Labels, ops.Func, ops.Host, ops.Local, ops.Global, ops.Const, ops.Offset}
	for at, n := range got {
		if int(n) != at {
			t.Errorf("P3.1: what an instruction takes, number %d: %d", at, n)
		}
	}
}

func TestOf(t *testing.T) {
	want := map[byte]ops.Row{}
	for _, r := range rows() {
		want[r.Op] = r
	}
	for op := range 256 {
		x, there := want[byte(op)]
		if got, ok := ops.Of(byte(op)); ok != there || got != x {
			t.Errorf("P3.1: Of(%02x): %+v, %v, not %+v, %v", op, got, ok, x, there)
		}
	}
}

func TestOfIsEmptyWhereNotPlain(t *testing.T) {
	count := 0
	for op := range 256 {
		r, ok := ops.Of(byte(op))
		if !ok || r.Plain {
			continue
		}
		count++
		if r.Pops != "" || r.Pushes != "" {
			t.Errorf("P3.1: %s is not plain, but has %q, %q", r.Word, r.Pops, r.Pushes)
		}
	}
	if count != 19 {
		t.Errorf("P3.1: %d instructions are not plain", count)
	}
}

func TestFind(t *testing.T) {
	for _, r := range rows() {
		if op, ok := ops.Find(r.Word); !ok || op != r.Op {
			t.Errorf("P3.2: Find(%q): %02x, %v", r.Word, op, ok)
		}
	}
}

func TestFindOfOtherTexts(t *testing.T) {
	for _, s := range notWords() {
		if op, ok := ops.Find(s); ok || op != 0 {
			t.Errorf("P3.2: Find(%q): %02x, %v", s, op, ok)
		}
	}
}

func TestAll(t *testing.T) {
	got := ops.All()
	if len(got) != 90 || !slices.Equal(got, opcodes()) {
		t.Errorf("P3.3: All: %d opcodes: %x", len(got), got)
	}
	for op := range 256 {
		if _, ok := ops.Of(byte(op)); ok != slices.Contains(got, byte(op)) {
			t.Errorf("P3.3: %02x: Of says %v, All does not", op, ok)
		}
	}
}

func TestAllIsNewMemory(t *testing.T) {
	first := ops.All()
	whole := first[:cap(first)]
	for at := range whole {
		whole[at] = 0xee
	}
	second := ops.All()
	if !slices.Equal(second, opcodes()) {
		t.Errorf("R5: All behind a change of its answer: %x", second)
	}
	_ = append(second, 1, 2, 3)
	for _, b := range whole {
		if b != 0xee {
			t.Fatalf("R5: two answers of All share memory: %x", whole)
		}
	}
}

func TestWhatFollows(t *testing.T) {
	seen := map[string]byte{}
	for _, op := range ops.All() {
		r, _ := ops.Of(op)
		if other, twice := seen[r.Word]; twice || r.Word == "" {
			t.Errorf("what follows: %q is the word of %02x and of %02x", r.Word, other, op)
		}
		seen[r.Word] = op
		if back, ok := ops.Find(r.Word); !ok || back != op {
			t.Errorf("what follows: Find of the word of %02x: %02x, %v", op, back, ok)
		}
		if len(r.Pops) > 2 || len(r.Pushes) > 1 || strings.Trim(r.Pops+r.Pushes, "wl") != "" {
			t.Errorf("what follows: %s: %q, %q", r.Word, r.Pops, r.Pushes)
		}
	}
}

func TestExamples(t *testing.T) {
	for _, x := range []ops.Row{
		{0x30, "w.eqz", ops.None, "w", "w", true},
		{0x59, "l.pop", ops.None, "l", "l", true},
		{0x29, "l.store", ops.Offset, "wl", "", true},
		{0x0b, "call", ops.Func, "", "", false},
	} {
		if r, ok := ops.Of(x.Op); !ok || r != x {
			t.Errorf("P3.1: Of(%02x): %+v, %v", x.Op, r, ok)
		}
	}
	for _, op := range []byte{0x0d, 0x17, 0x49, 0xff} {
		if r, ok := ops.Of(op); ok || r != (ops.Row{}) {
			t.Errorf("P3.1: Of(%02x): %+v, %v", op, r, ok)
		}
	}
	if op, ok := ops.Find("w.rotr"); !ok || op != 0x48 {
		t.Errorf("P3.2: Find(w.rotr): %02x, %v", op, ok)
	}
}

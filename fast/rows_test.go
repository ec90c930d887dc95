package fast_test

import (
	"fmt"
	"math"
	"strings"
	"testing"

	"flagon/api"
	"flagon/nums"
)

// fitting: the edges that are values of that letter.
func fitting(letter byte) []uint64 {
	var list []uint64
	for _, v := range edges() {
		if letter == 'l' || v < high {
			list = append(list, v)
		}
	}
	return list
}

// pairs: all that operands of these letters can be at the edges.
func pairs(letters string) [][]uint64 {
	list := [][]uint64{nil}
	for at := range letters {
		var longer [][]uint64
		for _, ahead := range list {
			for _, v := range fitting(letters[at]) {
				longer = append(longer, append(ahead[:len(ahead):len(ahead)], v))
			}
		}
		list = longer
	}
	return list
}

// TestNumbers: each instruction of numbers, of operands at the edges, in the midst of a segment: the answer of nums.Do, or its trap.
func TestNumbers(t *testing.T) {
	count := 0
	for word, x := range plain {
		op := opcodeOf[word]
		if !nums.Of(op) {
			continue
		}
		count++
		text := strings.TrimSuffix("get:0 get:1 ", strings.Repeat("get:1 ", 2-len(x.pops))) + word + " nop*3 end"
		m := of(x.pops+">"+x.pushes, "", text)
		for _, args := range pairs(x.pops) {
			answer, trap := nums.Do(op, args[0], args[len(args)-1])
			steps := len(x.pops) + 5
			want := fmt.Sprint("halted used ", steps, " results ", answer)
			if trap != 0 {
				want = fmt.Sprint("trapped used ", len(x.pops)+1, " trap ", trap)
			}
			comes(t, m, nil, begun(m, args...), 50, want)
		}
	}
	if count != 56 {
		t.Errorf("%d instructions of numbers", count)
	}
}

// TestPlain: each other plain instruction, of operands at the edges, with a memory: every fuel, beside the other engine.
func TestPlain(t *testing.T) {
	for word, x := range plain {
		if nums.Of(opcodeOf[word]) {
			continue
		}
		text := strings.TrimSuffix("get:0 get:1 ", strings.Repeat("get:1 ", 2-len(x.pops)))
		if x.pops == "" {
			text = ""
		}
		m := paged(1, 2, x.pops+">"+x.pushes, "", text+word+" end")
		for at, args := range pairs(x.pops) {
			s := begun(m, args...)
			for b := range s.Pages[0] {
				s.Pages[0][b] = byte(b*7 + at)
			}
			for fuel := range int64(5) {
				beside(t, m, nil, s, fuel)
			}
		}
	}
}

// TestExamplesOfNumbers: those of chapter 7, as runs.
func TestExamplesOfNumbers(t *testing.T) {
	for _, x := range []struct{ sig, word, args, want string }{
		{"ww>w", "w.sub", "0 1", "halted used 4 results 4294967295"},
		{"ll>l", "l.sub", "0 1", "halted used 4 results 18446744073709551615"},
		{"ww>w", "w.shl", "1 33", "halted used 4 results 2"},
		{"ww>w", "w.shrs", "2147483648 31", "halted used 4 results 4294967295"},
		{"ww>w", "w.shru", "2147483648 31", "halted used 4 results 1"},
		{"ww>w", "w.rotl", "2147483648 1", "halted used 4 results 1"},
		{"ww>w", "w.divs", "2147483648 4294967295", "trapped used 3 trap 4"},
		{"ww>w", "w.rems", "2147483648 4294967295", "halted used 4 results 0"},
		{"ww>w", "w.divu", "2147483648 4294967295", "halted used 4 results 0"},
		{"ww>w", "w.divs", "4294967289 2", "halted used 4 results 4294967293"},
		{"ww>w", "w.rems", "4294967289 2", "halted used 4 results 4294967295"},
		{"ll>w", "l.lts", "18446744073709551615 0", "halted used 4 results 1"},
		{"ll>w", "l.ltu", "18446744073709551615 0", "halted used 4 results 0"},
		{"ll>l", "l.remu", "7 0", "trapped used 3 trap 3"},
	} {
		m := of(x.sig, "", "get:0 get:1 "+x.word+" end")
		comes(t, m, nil, begun(m, numbers(x.args)...), 9, x.want)
	}
	for _, x := range []struct{ sig, word, arg, want string }{
		{"w>w", "w.clz", "0", "32"},
		{"w>w", "w.ctz", "0", "32"},
		{"l>l", "l.clz", "1", "63"},
		{"l>l", "l.pop", "255", "8"},
		{"l>w", "w.wrap", "4294967297", "1"},
		{"w>l", "l.extends", "2147483648", "18446744071562067968"},
		{"w>l", "l.extendu", "2147483648", "2147483648"},
		{"w>w", "w.ext8", "128", "4294967168"},
		{"w>w", "w.ext16", "32768", "4294934528"},
		{"l>l", "l.ext32", "2147483648", "18446744071562067968"},
		{"w>w", "w.eqz", "0", "1"},
		{"l>w", "l.eqz", "4294967296", "0"},
	} {
		m := of(x.sig, "", "get:0 "+x.word+" end")
		comes(t, m, nil, begun(m, numbers(x.arg)...), 9, "halted used 3 results "+x.want)
	}
}

// TestHeld: what is held on the stack, in locals and in globals; constants at their ends.
func TestHeld(t *testing.T) {
	for _, x := range []struct{ sig, code, want string }{
		{">w", "w.const:-1 end", "4294967295"},
		{">w", "w.const:-2147483648 end", "2147483648"},
		{">l", "l.const:-1 end", "18446744073709551615"},
		{">l", "l.const:-9223372036854775808 end", "9223372036854775808"},
		{">ww", "w.const:1 w.const:2 w.const:3 drop end", "1 2"},
		{">w", "w.const:1 w.const:2 w.const:0 select end", "2"},
		{">w", "w.const:1 w.const:2 w.const:1 select end", "1"},
		{">l", "l.const:1 l.const:2 w.const:-1 select end", "1"},
		{">l", "l.const:1 l.const:2 w.const:0 select end", "2"},
		{">wll", "w.const:7 set:0 l.const:8 tee:1 set:2 get:0 get:1 get:2 end", "7 8 8"},
		{">ll", "l.const:8 tee:2 get:1 end", "8 0"},
		{">wlw", "w.const:3 gset:0 gget:0 l.const:4 gset:1 gget:1 gget:2 end", "3 4 6"},
		{">ww", "size w.const:0 grow end", "1 1"},
	} {
		m := paged(1, 1, x.sig, "wll", x.code)
		m.Globals = []api.Global{{Letter: 'w', Mutable: true, Value: 5}, {Letter: 'l', Mutable: true, Value: math.MaxUint64}, {Letter: 'w', Value: 6}}
		got := ran(t, m, nil, begun(m), 100)
		if told := strings.Trim(fmt.Sprint(got.Results), "[]"); got.End != halted || told != x.want {
			t.Errorf("P19.1: %s: %s, not %s", x.code, told, x.want)
		}
	}
}

// TestBytes: each load and store, little end first; the sign is carried on by an s; address and offset together, over the end of a page, and at the end of the memory.
func TestBytes(t *testing.T) {
	bytes := map[int]byte{0: 0x81, 1: 0x92, 2: 0x03, 3: 0xf4, 4: 0x05, 5: 0x06, 6: 0x07, 7: 0x88, 4094: 0x11, 4095: 0xa2, 4096: 0xb3, 4097: 0x44, 8191: 0x7f}
	for _, x := range []struct{ sig, code, want string }{
		{">w", "w.const:0 w.load8u end", "129"},
		{">w", "w.const:0 w.load8s end", "4294967169"},
		{">w", "w.const:2 w.load8s end", "3"},
		{">w", "w.const:0 w.load16u end", "37505"},
		{">w", "w.const:0 w.load16s end", "4294939265"},
		{">w", "w.const:4 w.load16s end", "1541"},
		{">w", "w.const:0 w.load end", "4093874817"},
		{">l", "w.const:0 l.load end", "9801809736633651841"},
		{">w", "w.const:4000 w.load:94 end", "1152623121"},
		{">w", "w.const:4095 w.load16s end", "4294947746"},
		{">w", "w.const:0 w.load8u:8191 end", "127"},
		{">l", "w.const:8184 l.load end", "9151314442816847872"},
		{">l", "w.const:10 l.const:-1 l.store w.const:12 w.const:0 w.store8 w.const:10 l.load end", "18446744073692839935"},
		{">l", "w.const:10 w.const:-1 w.store:6 w.const:12 l.load end", "18446744069414584320"},
		{">l", "w.const:10 w.const:-1 w.store16 w.const:10 w.const:4660 w.store8:1 w.const:10 l.load end", "13567"},
	} {
		m := paged(2, 2, x.sig, "", x.code)
		s := begun(m)
		for at, b := range bytes {
			s.Pages[at/size][at%size] = b
		}
		got := ran(t, m, nil, s, 100)
		if told := strings.Trim(fmt.Sprint(got.Results), "[]"); got.End != halted || told != x.want {
			t.Errorf("P19.1: %s: %s, not %s", x.code, told, x.want)
		}
	}
	for _, code := range []string{"w.const:8192 w.load8u drop end", "w.const:8191 w.load16u drop end", "w.const:8189 w.load drop end", "w.const:8185 l.load drop end", "w.const:-1 w.load8s:1 drop end", "w.const:0 w.load8u:4294967295 drop end", "w.const:1 w.load16s:8190 drop end"} {
		m := paged(2, 2, ">", "", code)
		ends(t, m, nil, begun(m), 2, "trapped used 2 trap 2 pages 2 0")
		m.Functions[0].Code = written(&m, "w.const:5 drop "+code)
		ends(t, m, nil, begun(m), 4, "trapped used 4 trap 2 pages 2 0")
	}
}

// TestWays: where control goes, and what of the stack is kept on the way.
func TestWays(t *testing.T) {
	for _, x := range []struct {
		sig, code string
		steps     int64
		results   string
	}{
		{">ww", "w.const:1 block:>w w.const:2 w.const:3 w.const:4 br:0 end end", 7, " 1 4"},
		{">ww", "w.const:1 block:>w w.const:2 w.const:3 w.const:4 w.const:5 brif:0 drop drop end end", 8, " 1 4"},
		{">ww", "w.const:1 block:>w w.const:2 w.const:3 w.const:4 w.const:0 brif:0 drop drop end end", 11, " 1 2"},
		{">w", "w.const:1 block:> block:> w.const:2 w.const:3 br:1 end trap end end", 7, " 1"},
		{">w", "w.const:1 w.const:2 loop:w>w w.const:1 w.sub tee:1 get:1 get:1 brif:0 drop end w.add end", 19, " 1"},
		{">ww", "w.const:5 w.const:6 w.const:7 w.const:8 return end", 5, " 7 8"},
		{">ww", "block:> w.const:5 w.const:6 w.const:7 w.const:8 br:1 end trap end", 6, " 7 8"},
		{">w", "block:>w w.const:5 w.const:1 brif:1 end end", 4, " 5"},
		{">w", "w.const:4 w.const:0 if:w>w w.const:1 w.add end end", 5, " 4"},
		{">w", "w.const:4 w.const:9 if:w>w w.const:1 w.add end end", 7, " 5"},
		{">w", "w.const:4 w.const:0 if:w>w drop w.const:1 else w.eqz end end", 6, " 0"},
		{">w", "w.const:4 w.const:2 if:w>w drop w.const:1 else w.eqz end end", 8, " 1"},
		{">w", "w.const:0 if:>w w.const:1 br:0 else w.const:2 br:0 end end", 5, " 2"},
		{">w", "w.const:0 if:>w w.const:1 br:1 else w.const:2 br:1 end end", 4, " 2"},
		{">", "end", 1, ""},
		{">", "return end", 1, ""},
		{">", "block:> loop:> block:> end end end end", 7, ""},
	} {
		m := of(x.sig, "ww", x.code)
		ends(t, m, nil, begun(m), x.steps, fmt.Sprint("halted used ", x.steps, " results", x.results))
		every(t, small{m, nil, begun(m), int(x.steps)})
	}
}

// TestTables: a brtable goes by the label at its place, by the last one, if it is above that one's, without sign.
func TestTables(t *testing.T) {
	m := of("w>w", "", "block:>w block:>w block:>w w.const:50 w.const:60 get:0 brtable:2,0,1,3,1 end w.const:1 w.add end w.const:10 w.add end w.const:100 w.add end")
	for at, want := range map[uint64]string{
		0: "halted used 10 results 160", 1: "halted used 16 results 171", 2: "halted used 13 results 170", 3: "halted used 7 results 60",
		4: "halted used 13 results 170", 5: "halted used 13 results 170", 1 << 31: "halted used 13 results 170", high - 1: "halted used 13 results 170",
	} {
		comes(t, m, nil, begun(m, at), 100, want)
		every(t, small{m, nil, begun(m, at), 20})
	}
}

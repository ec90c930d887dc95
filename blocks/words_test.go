package blocks_test

import (
	"slices"
	"strconv"
	"strings"

	"flagon/api"
	"flagon/ops"
)

// opcode is that of a word, or of two digits of base 16.
func opcode(name string) byte {
	if op, found := ops.Find(name); found {
		return op
	}
	n, err := strconv.ParseUint(name, 16, 8)
	if err != nil {
		panic(name)
	}
	return byte(n)
}

// written is a code by its words: a number behind a colon, those of a brtable with commas between them; *9 behind a word: nine of them.
func written(text string) []api.Ins {
	var code []api.Ins
	for _, piece := range strings.Fields(text) {
		piece, times, many := strings.Cut(piece, "*")
		name, numbers, _ := strings.Cut(piece, ":")
		x := api.Ins{Op: opcode(name)}
		for _, digits := range strings.FieldsFunc(numbers, func(r rune) bool { return r == ',' }) {
			n, err := strconv.ParseInt(digits, 10, 64)
			if err != nil {
				panic(piece)
			}
			if name == "brtable" {
				x.L = append(x.L, int(n))
			} else {
				x.A = n
			}
		}
		count := 1
		if many {
			count, _ = strconv.Atoi(times)
		}
		code = append(code, slices.Repeat([]api.Ins{x}, count)...)
	}
	return code
}

// word is an instruction's; of an opcode that is none's its digits.
func word(x api.Ins) string {
	row, found := ops.Of(x.Op)
	if !found {
		return strconv.FormatUint(uint64(x.Op)+0x100, 16)[1:]
	}
	return row.Word
}

// told is a code as words; of a long one the beginning.
func told(code []api.Ins) string {
	var out []string
	for _, x := range code[:min(len(code), 90)] {
		s := word(x)
		for i, n := range x.L {
			s += []string{":", ","}[min(i, 1)] + strconv.Itoa(n)
		}
		if x.A != 0 {
			s += ":" + strconv.FormatInt(x.A, 10)
		}
		out = append(out, s)
	}
	return strings.Join(out, " ")
}

// places are the numbers of those that are true.
func places(list []bool) []int {
	var out []int
	for pc, is := range list {
		if is {
			out = append(out, pc)
		}
	}
	return out
}

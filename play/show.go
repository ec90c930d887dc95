package play

import (
	"strconv"
	"strings"

	"flagon/api"
)

// Show: a state as lines, whether it may be or not.
func Show(s api.State) []string {
	told := []string{standing(s.End) + " used " + strconv.FormatInt(s.Used, 10)}
	switch s.End {
	case api.Suspended:
		for _, f := range s.Frames {
			told = append(told, place(f), row("locals", f.Locals), row("stack", f.Stack))
		}
	case api.Halted:
		told = append(told, row("results", s.Results))
	case api.Trapped:
		told = append(told, "trap "+strconv.Itoa(int(s.Trap)))
	}
	return append(told, row("globals", s.Globals), pages(s.Pages))
}

// standing: the word for how a run stands.
func standing(end int8) string {
	switch end {
	case api.Suspended:
		return "suspended"
	case api.Halted:
		return "halted"
	case api.Trapped:
		return "trapped"
	}
	return "none"
}

// place: the line that tells where a frame stands.
func place(f api.Frame) string {
	return "frame " + strconv.Itoa(f.Function) + " at " + strconv.Itoa(f.Pc)
}

// row: a word, and values behind it.
func row(word string, values []uint64) string {
	var told strings.Builder
	told.WriteString(word)
	for _, v := range values {
		told.WriteByte(blank)
		told.WriteString(strconv.FormatUint(v, 10))
	}
	return told.String()
}

// pages: the line that tells how many there are, and how many of their bytes are not 0.
func pages(list [][]byte) string {
	full := 0
	for _, page := range list {
		for _, c := range page {
			if c != 0 {
				full++
			}
		}
	}
	return "pages " + strconv.Itoa(len(list)) + " " + strconv.Itoa(full)
}

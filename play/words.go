package play

import (
	"strconv"
	"strings"

	"flagon/api"
	"flagon/meter"
)

const (
	blank  = ' '
	quote  = '"'
	escape = '\\'
	last   = '~' // of the bytes that a word may have
	base16 = "0123456789abcdef"
)

// word: of a line: what it says, and whether it stands between quotes.
type word struct {
	said   string
	inside bool
}

// words: those of a line, from the left on.
func words(line string) []word {
	var list []word
	for rest := unblanked(line); rest != ""; rest = unblanked(rest) {
		var next word
		if rest[0] == quote {
			next, rest = cutQuoted(rest[1:])
		} else {
			next, rest = cutPlain(rest)
		}
		must(rest == "" || rest[0] == blank)
		list = append(list, next)
	}
	return list
}

func unblanked(s string) string {
	return strings.TrimLeft(s, string(blank))
}

// cutPlain: the plain word that s begins with, and what stands behind it. A byte that no word may have is left where it stands, where no blank is.
func cutPlain(s string) (word, string) {
	size := 0
	for size < len(s) && blank < s[size] && s[size] <= last && s[size] != quote {
		size++
	}
	return word{said: s[:size]}, s[size:]
}

// cutQuoted: the quoted word of whose first quote s stands behind, and what stands behind its other one.
func cutQuoted(s string) (word, string) {
	var said strings.Builder
	for at := 0; at < len(s); at++ {
		switch c := s[at]; {
		case c == quote:
			return word{said: said.String(), inside: true}, s[at+1:]
		case c == escape:
			at++
			must(at < len(s))
			said.WriteByte(escaped(s[at]))
		default:
			must(blank <= c && c <= last)
			said.WriteByte(c)
		}
	}
	panic(misfit{})
}

// escaped: what a byte behind a backslash says.
func escaped(c byte) byte {
	if c == 'n' {
		return '\n'
	}
	must(c == quote || c == escape)
	return c
}

// plain: what a word says that must be plain.
func (w word) plain() string {
	must(!w.inside)
	return w.said
}

// quoted: what a word says that must be quoted.
func (w word) quoted() string {
	must(w.inside)
	return w.said
}

// number: a number has one form alone, the one that it is told in.
func number(s string) int64 {
	v, err := strconv.ParseInt(s, 10, 64)
	must(err == nil && strconv.FormatInt(v, 10) == s)
	return v
}

// value: a number too, but for those that no sign has room for.
func value(s string) uint64 {
	if v, err := strconv.ParseUint(s, 10, 64); err == nil && strconv.FormatUint(v, 10) == s {
		return v
	}
	return uint64(number(s))
}

// octets: those that are told as hex. A plain word is never empty, so that there is at least one.
func octets(s string) []byte {
	must(len(s)%2 == 0)
	b := make([]byte, len(s)/2)
	for at := range b {
		b[at] = digit(s[2*at])<<4 | digit(s[2*at+1])
	}
	return b
}

func digit(c byte) byte {
	v := strings.IndexByte(base16, c)
	must(v >= 0)
	return byte(v)
}

// hex tells what octets reads.
func hex(b []byte) string {
	told := make([]byte, 0, 2*len(b))
	for _, c := range b {
		told = append(told, base16[c>>4], base16[c&15])
	}
	return string(told)
}

// engine: the one of that name.
func engine(s string) int8 {
	switch s {
	case "slow":
		return meter.Slow
	case "fast":
		return meter.Fast
	}
	panic(misfit{})
}

// reply: of a host.
func reply(s string) api.Reply {
	switch s {
	case "trap":
		return api.Reply{Trap: true}
	case "none":
		return api.Reply{}
	}
	var x api.Reply
	for next := range strings.SplitSeq(s, ",") {
		x.Results = append(x.Results, value(next))
	}
	return x
}

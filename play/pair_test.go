package play_test

import (
	"encoding/hex"
	"fmt"
	"math/big"
	"regexp"
	"slices"
	"strings"
	"testing"

	"flagon/api"
	"flagon/meter"
	"flagon/play"
	"flagon/session"
)

// The forms of chapter 30, said once more: of a line, and of its words.
var (
	wordForm   = `(?:"(?:[ !#-\[\]-~]|\\["\\n])*"|[!#-~]+)`
	lineForm   = regexp.MustCompile(`\A *(?:` + wordForm + `(?: +` + wordForm + `)* *)?\z`)
	wordsOf    = regexp.MustCompile(wordForm)
	plainForm  = regexp.MustCompile(`\A[!#-~]+\z`)
	numberForm = regexp.MustCompile(`\A(?:0|-?[1-9][0-9]*)\z`)
	hexForm    = regexp.MustCompile(`\A(?:[0-9a-f]{2})+\z`)
	engineForm = regexp.MustCompile(`\A(?:slow|fast)\z`)
	unescaped  = strings.NewReplacer(`\n`, "\n", `\"`, `"`, `\\`, `\`)
)

// within: is that a number, and from least to most?
func within(word, least, most string) bool {
	if !numberForm.MatchString(word) {
		return false
	}
	v, from, to := new(big.Int), new(big.Int), new(big.Int)
	v.SetString(word, 10)
	from.SetString(least, 10)
	to.SetString(most, 10)
	return from.Cmp(v) <= 0 && v.Cmp(to) <= 0
}

func isNumber(word string) bool {
	return within(word, "-9223372036854775808", "9223372036854775807")
}

func isValue(word string) bool {
	return within(word, "-9223372036854775808", "18446744073709551615")
}

func isReply(word string) bool {
	if word == "trap" || word == "none" {
		return true
	}
	for _, piece := range strings.Split(word, ",") {
		if !isValue(piece) {
			return false
		}
	}
	return true
}

func isQuoted(word string) bool {
	return word[0] == '"'
}

// fits: may these words stand behind that first one?
func fits(first string, rest []string) bool {
	all := func(words []string, form func(string) bool) bool {
		return !slices.ContainsFunc(words, func(word string) bool { return !form(word) })
	}
	switch first {
	case "text":
		return len(rest) == 1 && isQuoted(rest[0])
	case "load", "restore":
		return len(rest) == 1 && hexForm.MatchString(rest[0])
	case "source", "bytes", "state", "save":
		return len(rest) == 0
	case "script":
		return all(rest, isReply)
	case "begin":
		return len(rest) > 0 && plainForm.MatchString(rest[0]) && all(rest[1:], isValue)
	case "run":
		return len(rest) == 2 && engineForm.MatchString(rest[0]) && isNumber(rest[1])
	}
	return false
}

func valueOf(word string) uint64 {
	v, _ := new(big.Int).SetString(word, 10)
	return new(big.Int).And(v, new(big.Int).SetUint64(1<<64-1)).Uint64()
}

func replyOf(word string) api.Reply {
	x := api.Reply{Trap: word == "trap"}
	for _, piece := range strings.Split(word, ",") {
		if isValue(piece) {
			x.Results = append(x.Results, valueOf(piece))
		}
	}
	return x
}

// lines is Show, said once more.
func lines(s api.State) []string {
	row := func(word string, values []uint64) string {
		return strings.TrimSuffix(word+" "+strings.Trim(fmt.Sprint(values), "[]"), " ")
	}
	name, found := map[int8]string{suspended: "suspended", halted: "halted", trapped: "trapped"}[s.End]
	if !found {
		name = "none"
	}
	out := []string{fmt.Sprintf("%s used %d", name, s.Used)}
	for _, f := range s.Frames {
		if s.End == suspended {
			out = append(out, fmt.Sprintf("frame %d at %d", f.Function, f.Pc), row("locals", f.Locals), row("stack", f.Stack))
		}
	}
	if s.End == halted {
		out = append(out, row("results", s.Results))
	}
	if s.End == trapped {
		out = append(out, fmt.Sprintf("trap %d", s.Trap))
	}
	full := 0
	for _, b := range slices.Concat(s.Pages...) {
		full += min(int(b), 1)
	}
	return append(out, row("globals", s.Globals), fmt.Sprintf("pages %d %d", len(s.Pages), full))
}

// pair: a play, and a session that goes along with it by chapter 30 as it is read here.
type pair struct {
	play    *play.Play
	session *session.Session
}

func paired(t *testing.T) *pair {
	t.Helper()
	return &pair{fresh(t), session.New()}
}

// do: what is told of that line, by the play and as it is read here.
func (p *pair) do(t *testing.T, line string) []string {
	t.Helper()
	want := p.told(line)
	if got := p.play.Do(line); !slices.Equal(got, want) {
		t.Fatalf("P30.2: of %.200q: %.300q, not %.300q", line, got, want)
	}
	return want
}

// agrees: do they have the same?
func (p *pair) agrees(t *testing.T) {
	t.Helper()
	for _, line := range []string{"state", "save", "bytes", "source"} {
		p.do(t, line)
	}
}

// failed is the line of an error, with its places.
func failed(e api.Errno, places ...int) []string {
	if e == api.OK {
		return nil
	}
	if len(places) == 0 {
		return []string{fmt.Sprintf("error %d", int(e))}
	}
	return []string{fmt.Sprintf("error %d at %s", int(e), strings.Trim(fmt.Sprint(places), "[]"))}
}

func (p *pair) told(line string) []string {
	if !lineForm.MatchString(line) {
		return []string{misfit}
	}
	words := wordsOf.FindAllString(line, -1)
	if len(words) == 0 {
		return nil
	}
	first, rest := words[0], words[1:]
	if !fits(first, rest) {
		return []string{misfit}
	}
	s := p.session
	switch first {
	case "text":
		return failed(s.Text(unescaped.Replace(rest[0][1 : len(rest[0])-1])))
	case "load":
		b, _ := hex.DecodeString(rest[0])
		return failed(s.Load(b))
	case "restore":
		b, _ := hex.DecodeString(rest[0])
		return failed(s.Restore(b))
	case "script":
		var script []api.Reply
		for _, word := range rest {
			script = append(script, replyOf(word))
		}
		return failed(s.Script(script))
	case "begin":
		var args []uint64
		for _, word := range rest[1:] {
			args = append(args, valueOf(word))
		}
		return failed(s.Begin(rest[0], args))
	case "run":
		fuel, _ := new(big.Int).SetString(rest[1], 10)
		c, e := s.Run(map[string]int8{"slow": meter.Slow, "fast": meter.Fast}[rest[0]], fuel.Int64())
		if e != api.OK {
			return failed(e)
		}
		return []string{fmt.Sprintf("executed %d asked %d paid %d back %d entered %d", c.Executed, c.Asked, c.Paid, c.Back, c.Entered)}
	}
	return p.answered(first)
}

// answered: what is told of a line of one word.
func (p *pair) answered(word string) []string {
	var out []string
	var e api.Errno
	switch word {
	case "source":
		var s string
		s, e = p.session.Source()
		out = strings.Split(s, "\n")
		out = out[:len(out)-1]
	case "bytes", "save":
		var b []byte
		b, e = map[string]func() ([]byte, api.Errno){"bytes": p.session.Bytes, "save": p.session.Save}[word]()
		out = []string{hex.EncodeToString(b)}
	case "state":
		var s api.State
		s, e = p.session.State()
		out = lines(s)
	}
	if e != api.OK {
		return failed(e)
	}
	return out
}

package text

import (
	"strconv"
	"strings"

	"flagon/api"
	"flagon/ops"
	"flagon/types"
)

// printer holds the lines so far.
type printer struct{ text strings.Builder }

func (p *printer) line(words ...string) {
	p.text.WriteString(strings.Join(words, " "))
	p.text.WriteByte('\n')
}

// module: what is told of m passes module.Check, so that each of its things has a word.
func (p *printer) module(m api.Module) {
	p.line("flagon")
	for _, x := range m.Types {
		word, _ := types.Word(x)
		p.line("type", word)
	}
	for _, x := range m.Hosts {
		p.line("extern", strconv.Itoa(x))
	}
	for _, x := range m.Globals {
		p.line("global", string(x.Letter), kept(x.Mutable), value(x))
	}
	p.line("memory", strconv.Itoa(m.First), strconv.Itoa(m.Most))
	for _, x := range m.Functions {
		p.function(x)
	}
	for _, x := range m.Data {
		p.line("data", strconv.Itoa(x.At), octets(x.B))
	}
	for _, x := range m.Exports {
		p.line("export", x.Name, strconv.Itoa(x.Function))
	}
}

func (p *printer) function(x api.Function) {
	locals := x.Locals
	if locals == "" {
		locals = noLocals
	}
	p.line("func", strconv.Itoa(x.Type), locals)
	for _, x := range x.Code {
		p.instruction(x)
	}
}

func (p *printer) instruction(x api.Ins) {
	row, _ := ops.Of(x.Op)
	words := []string{"  " + row.Word}
	switch row.Takes {
	case ops.None:
	case ops.Labels:
		for _, label := range x.L {
			words = append(words, strconv.Itoa(label))
		}
	default:
		words = append(words, strconv.FormatInt(x.A, 10))
	}
	p.line(words...)
}

func kept(mutable bool) string {
	if mutable {
		return "var"
	}
	return "const"
}

// value: a w is held without a sign, and told with one.
func value(x api.Global) string {
	if x.Letter == 'w' {
		return strconv.FormatInt(int64(int32(x.Value)), 10)
	}
	return strconv.FormatInt(int64(x.Value), 10)
}

func octets(b []byte) string {
	var out strings.Builder
	for _, c := range b {
		out.WriteByte(digits[c>>4])
		out.WriteByte(digits[c&15])
	}
	return out.String()
}

package play

import (
	"strconv"
	"strings"

	"flagon/api"
	"flagon/meter"
)

// doings: what a line's first word does with the words behind it, and what it tells.
func doings() map[string]func(*Play, []word) []string {
	return map[string]func(*Play, []word) []string{
		"text":    (*Play).text,
		"load":    (*Play).load,
		"source":  (*Play).source,
		"bytes":   (*Play).bytes,
		"script":  (*Play).script,
		"begin":   (*Play).begin,
		"run":     (*Play).run,
		"state":   (*Play).state,
		"save":    (*Play).save,
		"restore": (*Play).restore,
	}
}

func (p *Play) text(list []word) []string {
	must(len(list) == 1)
	return refused(p.session.Text(list[0].quoted()))
}

func (p *Play) load(list []word) []string {
	must(len(list) == 1)
	return refused(p.session.Load(octets(list[0].plain())))
}

func (p *Play) source(list []word) []string {
	must(len(list) == 0)
	source, e := p.session.Source()
	if e != api.OK {
		return refused(e)
	}
	return strings.Split(strings.TrimSuffix(source, "\n"), "\n")
}

func (p *Play) bytes(list []word) []string {
	must(len(list) == 0)
	return digits(p.session.Bytes())
}

func (p *Play) script(list []word) []string {
	script := make([]api.Reply, len(list))
	for at, next := range list {
		script[at] = reply(next.plain())
	}
	return refused(p.session.Script(script))
}

func (p *Play) begin(list []word) []string {
	must(len(list) > 0)
	args := make([]uint64, len(list)-1)
	for at, next := range list[1:] {
		args[at] = value(next.plain())
	}
	return refused(p.session.Begin(list[0].plain(), args))
}

func (p *Play) run(list []word) []string {
	must(len(list) == 2)
	counts, e := p.session.Run(engine(list[0].plain()), number(list[1].plain()))
	if e != api.OK {
		return refused(e)
	}
	return []string{counted(counts)}
}

func (p *Play) state(list []word) []string {
	must(len(list) == 0)
	state, e := p.session.State()
	if e != api.OK {
		return refused(e)
	}
	return Show(state)
}

func (p *Play) save(list []word) []string {
	must(len(list) == 0)
	return digits(p.session.Save())
}

func (p *Play) restore(list []word) []string {
	must(len(list) == 1)
	return refused(p.session.Restore(octets(list[0].plain())))
}

// refused: the line that tells why a call refused, if it did, and the places that it named.
func refused(e api.Errno, places ...int) []string {
	if e == api.OK {
		return nil
	}
	told := []string{e.Error()}
	for at, place := range places {
		if at == 0 {
			told = append(told, "at")
		}
		told = append(told, strconv.Itoa(place))
	}
	return []string{strings.Join(told, " ")}
}

// digits: what a call answered, as hex, or why it refused.
func digits(b []byte, e api.Errno) []string {
	if e != api.OK {
		return refused(e)
	}
	return []string{hex(b)}
}

// counted: the line that tells what an engine counted.
func counted(c meter.Counts) string {
	told := ""
	for _, x := range []struct {
		word  string
		count int64
	}{
		{"executed ", c.Executed},
		{" asked ", c.Asked},
		{" paid ", c.Paid},
		{" back ", c.Back},
		{" entered ", c.Entered},
	} {
		told += x.word + strconv.FormatInt(x.count, 10)
	}
	return told
}

package text

import (
	"strconv"
	"strings"

	"flagon/api"
	"flagon/ops"
	"flagon/types"
)

// The parts of a text, in their order.
const (
	noPart = iota
	headPart
	typePart
	externPart
	globalPart
	memoryPart
	functionPart
	dataPart
	exportPart
)

// reader keeps what the lines so far told, the number of the last one, and the part of the text that it left off in.
type reader struct {
	kinds map[string]func(*reader, []string)
	m     api.Module
	line  int
	part  int
}

// kinds: what a line's first word asks for. A word that has none here may still be an instruction's.
func kinds() map[string]func(*reader, []string) {
	return map[string]func(*reader, []string){
		"flagon": (*reader).head,
		"type":   (*reader).signature,
		"extern": (*reader).host,
		"global": (*reader).global,
		"memory": (*reader).memory,
		"func":   (*reader).function,
		"data":   (*reader).data,
		"export": (*reader).export,
	}
}

// take reads the next line.
func (r *reader) take(line string) {
	r.line++
	words := strings.FieldsFunc(line, blank)
	if len(words) == 0 || words[0][0] == remark {
		return
	}
	read, found := r.kinds[words[0]]
	if !found {
		read = (*reader).instruction
	}
	read(r, words)
}

// end asks whether the text may end here: all that stands behind the memory line may be left out.
func (r *reader) end() {
	r.must(r.part >= memoryPart)
}

// blank: a text has no other bytes between its words; what else Unicode calls a blank is part of a word.
func blank(c rune) bool {
	return c == '\t' || c == '\r' || c == ' '
}

// must throws the line if what is asked of it does not hold.
func (r *reader) must(holds bool) {
	if !holds {
		panic(fault{r.line})
	}
}

// many goes on to a part that has any number of lines, from any part between first and it.
func (r *reader) many(first, part int) {
	r.must(first <= r.part && r.part <= part)
	r.part = part
}

// once goes on to a part that has one line.
func (r *reader) once(first, part int) {
	r.must(r.part < part)
	r.many(first, part)
}

func (r *reader) head(words []string) {
	r.once(noPart, headPart)
	r.must(len(words) == 1)
}

// signature: types.ReadSig takes one blank alone between its words, and asks how many there are.
func (r *reader) signature(words []string) {
	r.many(headPart, typePart)
	x, e := types.ReadSig(strings.Join(words[1:], " "))
	r.must(e == api.OK)
	r.m.Types = append(r.m.Types, x)
}

func (r *reader) host(words []string) {
	r.many(headPart, externPart)
	r.must(len(words) == 2)
	r.m.Hosts = append(r.m.Hosts, r.index(words[1]))
}

func (r *reader) global(words []string) {
	r.many(headPart, globalPart)
	r.must(len(words) == 4)
	r.must(words[2] == "var" || words[2] == "const")
	x := api.Global{Mutable: words[2] == "var"}
	v := r.number(words[3])
	switch words[1] {
	case "w":
		r.must(v == int64(int32(v)))
		x.Letter, x.Value = 'w', uint64(uint32(v))
	case "l":
		x.Letter, x.Value = 'l', uint64(v)
	default:
		r.must(false)
	}
	r.m.Globals = append(r.m.Globals, x)
}

func (r *reader) memory(words []string) {
	r.once(headPart, memoryPart)
	r.must(len(words) == 3)
	r.m.First, r.m.Most = r.index(words[1]), r.index(words[2])
}

// function: its locals are asked by module.Check, whatever they are. They are copied, as names are, so that the answer does not hold on to the whole text.
func (r *reader) function(words []string) {
	r.many(memoryPart, functionPart)
	r.must(len(words) == 3)
	x := api.Function{Type: r.index(words[1])}
	if words[2] != noLocals {
		x.Locals = strings.Clone(words[2])
	}
	r.m.Functions = append(r.m.Functions, x)
}

// instruction belongs to the last function; ahead of the first one there is none to belong to.
func (r *reader) instruction(words []string) {
	r.many(functionPart, functionPart)
	op, found := ops.Find(words[0])
	r.must(found)
	row, _ := ops.Of(op)
	x := api.Ins{Op: op}
	switch row.Takes {
	case ops.None:
		r.must(len(words) == 1)
	case ops.Labels:
		x.L = r.labels(words[1:])
	default:
		r.must(len(words) == 2)
		x.A = r.number(words[1])
	}
	f := &r.m.Functions[len(r.m.Functions)-1]
	f.Code = append(f.Code, x)
}

// labels: how many there may be is asked by module.Check.
func (r *reader) labels(words []string) []int {
	list := make([]int, len(words))
	for at, word := range words {
		list[at] = r.index(word)
	}
	return list
}

func (r *reader) data(words []string) {
	r.many(memoryPart, dataPart)
	r.must(len(words) == 3)
	x := api.Data{At: r.index(words[1]), B: r.octets(words[2])}
	r.m.Data = append(r.m.Data, x)
}

func (r *reader) export(words []string) {
	r.many(memoryPart, exportPart)
	r.must(len(words) == 3)
	x := api.Export{Name: strings.Clone(words[1]), Function: r.index(words[2])}
	r.m.Exports = append(r.m.Exports, x)
}

// number: a number has one form alone, the one that it is told in.
func (r *reader) number(word string) int64 {
	v, err := strconv.ParseInt(word, 10, 64)
	r.must(err == nil && strconv.FormatInt(v, 10) == word)
	return v
}

// index: whether there is such a one is asked by module.Check.
func (r *reader) index(word string) int {
	return int(r.number(word))
}

// octets: a word is never empty, so that there is at least one.
func (r *reader) octets(word string) []byte {
	r.must(len(word)%2 == 0)
	b := make([]byte, len(word)/2)
	for at := range b {
		b[at] = r.digit(word[2*at])<<4 | r.digit(word[2*at+1])
	}
	return b
}

func (r *reader) digit(c byte) byte {
	v := strings.IndexByte(digits, c)
	r.must(v >= 0)
	return byte(v)
}

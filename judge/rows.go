package judge

import "flagon/api"

const condition = "w" // what an if, a brif, a brtable and a select choose by

// change: letters that are taken off the top, and those that are put on in their stead.
type change struct{ off, on string }

// row: does what the row of the instruction at pc says hold? It is left by the closure, which notes what does not.
func (j *judgement) row(pc int, leave func(kept bool)) {
	switch j.rows[pc].Word {
	case "if":
		leave(j.goesOn(pc) && j.otherwise(pc))
	case "else":
		leave(j.closes(pc, j.ends[pc]))
	case "end":
		leave(j.closes(pc, pc+1))
	case "trap", "br", "brtable", "return":
		leave(j.closer(pc+1) && j.leaves(pc))
	case "drop":
		leave(some(func(y string) bool { return j.turns(pc, change{off: y}) }))
	case "select":
		leave(some(func(y string) bool { return j.turns(pc, change{off: y + y + condition, on: y}) }))
	default:
		leave(j.goesOn(pc))
	}
}

// some: is there a letter of which that holds?
func some(holds func(y string) bool) bool {
	return holds("w") || holds("l")
}

// goesOn: do the shapes at pc and behind it fit the letters that the instruction takes off and puts on?
func (j *judgement) goesOn(pc int) bool {
	x, found := j.changes(pc)
	return found && j.turns(pc, x)
}

// otherwise: what is asked of an if where it is not taken: its else begins as it does, and without one it leaves what it finds.
func (j *judgement) otherwise(pc int) bool {
	x, _ := j.sig(pc)
	base, _ := j.base(pc)
	if other := j.elses[pc]; other >= 0 {
		return j.have(place{other + 1, base + x.Params})
	}
	return x.Params == x.Results && j.have(place{j.ends[pc], base + x.Results})
}

// closes: is the shape at an else or an end, and where it leads to, just what its opener leaves? The last end leads out of the function, where no shape is.
func (j *judgement) closes(pc, next int) bool {
	opener := j.owners[pc]
	x, _ := j.sig(opener)
	base, found := j.base(opener)
	left := base + x.Results
	if opener == body {
		return j.have(place{pc, left})
	}
	return found && j.have(place{pc, left}, place{next, left})
}

// closer: does an else or an end stand there?
func (j *judgement) closer(pc int) bool {
	word := j.rows[pc].Word
	return word == "else" || word == "end"
}

// leaves: what is asked at the end of a way.
func (j *judgement) leaves(pc int) bool {
	top, found := j.results, true
	switch x := j.code[pc]; j.rows[pc].Word {
	case "trap":
		return true
	case "br":
		top, found = j.brings(pc, int(x.A))
	case "brtable":
		top, found = j.brings(pc, x.L...)
		top += condition
	}
	_, onTop := j.is(pc, top)
	return found && onTop
}

// sig: the type of what is opened there, if there is one. The body's parameters are locals, and not on its stack.
func (j *judgement) sig(opener int) (api.Sig, bool) {
	if opener == body {
		return api.Sig{Results: j.results}, true
	}
	return pick(j.module.Types, j.code[opener].A)
}

// label: the opener of the label of that number, from the innermost on.
func (j *judgement) label(pc, number int) (int, bool) {
	opener := j.owners[pc]
	for ; number > 0 && opener != body; number-- {
		opener = j.owners[opener]
	}
	return opener, number == 0
}

// brings: the letters that the labels of all those numbers bring; not, if one is no label's, or brings others than the first one. A loop's label leads to where it is entered.
func (j *judgement) brings(pc int, numbers ...int) (string, bool) {
	common := ""
	for at, number := range numbers {
		opener, found := j.label(pc, number)
		if !found {
			return "", false
		}
		x, _ := j.sig(opener)
		letters := x.Results
		if opener != body && j.rows[opener].Word == "loop" {
			letters = x.Params
		}
		if at > 0 && letters != common {
			return "", false
		}
		common = letters
	}
	return common, true
}

// changes: the letters that the instruction at pc takes off and puts on, where the module and the labels tell them; not, if its number is none's.
func (j *judgement) changes(pc int) (change, bool) {
	x := j.code[pc]
	switch word := j.rows[pc].Word; word {
	case "block", "loop":
		t, found := j.sig(pc)
		return change{t.Params, t.Params}, found
	case "if":
		t, found := j.sig(pc)
		return change{t.Params + condition, t.Params}, found
	case "brif":
		y, found := j.brings(pc, int(x.A))
		return change{y + condition, y}, found
	case "call":
		f, found := pick(j.module.Functions, x.A)
		return j.called(f.Type, found)
	case "host":
		number, found := pick(j.module.Hosts, x.A)
		return j.called(number, found)
	case "get", "set", "tee":
		letter, found := pick(j.locals, x.A)
		return held(word, letter), found
	case "gget", "gset":
		global, found := pick(j.module.Globals, x.A)
		return held(word, global.Letter), found && (word == "gget" || global.Mutable)
	}
	return change{j.rows[pc].Pops, j.rows[pc].Pushes}, true
}

// called: of a function or a host of that type, if it was found.
func (j *judgement) called(number int, found bool) (change, bool) {
	if !found {
		return change{}, false
	}
	x := j.module.Types[number]
	return change{x.Params, x.Results}, true
}

// held: of an instruction of a local or a global of that letter.
func held(word string, letter byte) change {
	y := string(letter)
	switch word {
	case "get", "gget":
		return change{on: y}
	case "tee":
		return change{y, y}
	}
	return change{off: y}
}

// pick: the one of that number, if there is one.
func pick[T any](list []T, number int64) (T, bool) {
	if number < 0 || number >= int64(len(list)) {
		var none T
		return none, false
	}
	return list[number], true
}

package validate

import (
	"flagon/api"
	"flagon/ops"
)

// The opcodes that are not plain.
const (
	opTrap    = 0x00
	opBlock   = 0x02
	opLoop    = 0x03
	opIf      = 0x04
	opElse    = 0x05
	opEnd     = 0x06
	opBr      = 0x07
	opBrif    = 0x08
	opBrtable = 0x09
	opReturn  = 0x0a
	opCall    = 0x0b
	opHost    = 0x0c
	opDrop    = 0x10
	opSelect  = 0x11
	opGet     = 0x12
	opSet     = 0x13
	opTee     = 0x14
	opGget    = 0x15
	opGset    = 0x16
)

const (
	condition = "w" // what an if, a brif, a brtable and a select choose by
	noElse    = -1
	noFloor   = -1
)

// signature: letters that are taken off the top, and those that stand in their stead: a type's, and those of each instruction that goes on at the next pc whatever it finds.
type signature api.Sig

// entered: the shape where that is opened over a base.
func (s signature) entered(base string) string {
	return base + s.Params
}

// left: the shape where that is ended over a base.
func (s signature) left(base string) string {
	return base + s.Results
}

// same: is nothing changed by not entering it?
func (s signature) same() bool {
	return s.Params == s.Results
}

// opened: the body, or an opener that has not ended. It has the letters of its type as its own.
type opened struct {
	signature
	base string
	op   byte
	pc   int
}

// body: a function's parameters are locals, so nothing is on its stack where it is entered.
func body(own api.Sig) opened {
	return opened{signature: signature{Results: own.Results}}
}

// brings: the letters that a branch to its label brings. A loop's leads to where it is entered.
func (o *opened) brings() string {
	if o.op == opLoop {
		return o.Params
	}
	return o.Results
}

// row asks what the row of x asks, and goes on to the shape that it says.
func (c *checker) row(x api.Ins) {
	switch x.Op {
	case opBlock, opLoop:
		c.enter(x, "")
	case opIf:
		c.enter(x, condition)
	case opElse:
		c.otherwise()
	case opEnd:
		c.end()
	case opBr:
		c.ask(c.label(x.A).brings())
		c.leave()
	case opBrif:
		c.ask(c.label(x.A).brings() + condition)
		c.take(condition)
	case opBrtable:
		c.ask(c.common(x.L) + condition)
		c.leave()
	case opReturn:
		c.ask(c.open[0].brings())
		c.leave()
	case opTrap:
		c.leave()
	default:
		s := c.effect(x)
		c.take(s.Params)
		c.put(s.Results)
	}
}

// enter opens what x opens. What it takes off ahead of that is not its type's.
func (c *checker) enter(x api.Ins, taken string) {
	s := signature(pick(c.module.Types, x.A))
	c.ask(s.Params + taken)
	c.take(taken)
	base := c.stack[:len(c.stack)-len(s.Params)]
	c.table.Floors[c.pc] = len(base)
	c.open = append(c.open, opened{signature: s, base: base, op: x.Op, pc: c.pc})
}

// otherwise: the other half of an if begins as the first one did.
func (c *checker) otherwise() {
	o := c.inner()
	must(c.stack == o.left(o.base), api.ErrStack)
	c.stack = o.entered(o.base)
}

// end: an if without an else may be passed by, and then leaves what it found.
func (c *checker) end() {
	o := c.inner()
	must(c.stack == o.left(o.base), api.ErrStack)
	must(o.op != opIf || c.table.Elses[o.pc] != noElse || o.same(), api.ErrElse)
	c.open = c.open[:len(c.open)-1]
}

// label: what the label of that number belongs to, from the innermost on.
func (c *checker) label(number int64) *opened {
	must(number >= 0 && number < int64(len(c.open)), api.ErrLabel)
	return &c.open[len(c.open)-1-int(number)]
}

// common: what all labels of those numbers bring. That all are labels' is asked first.
func (c *checker) common(numbers []int) string {
	for _, number := range numbers {
		c.label(int64(number))
	}
	letters := c.label(int64(numbers[0])).brings()
	for _, number := range numbers {
		must(c.label(int64(number)).brings() == letters, api.ErrLabels)
	}
	return letters
}

// effect: the letters that x takes off the top, and those that it puts in their stead.
func (c *checker) effect(x api.Ins) signature {
	switch x.Op {
	case opCall:
		return signature(c.module.Types[pick(c.module.Functions, x.A).Type])
	case opHost:
		return signature(c.module.Types[pick(c.module.Hosts, x.A)])
	case opDrop:
		return signature{Params: c.letter(0)}
	case opSelect:
		either := c.letter(1)
		return signature{Params: either + either + condition, Results: either}
	case opGet, opSet, opTee:
		return holder(x.Op, pick(c.locals, x.A))
	case opGget, opGset:
		global := pick(c.module.Globals, x.A)
		must(x.Op == opGget || global.Mutable, api.ErrMutable)
		return holder(x.Op, global.Letter)
	}
	row, _ := ops.Of(x.Op)
	return signature{Params: row.Pops, Results: row.Pushes}
}

// holder: of an instruction of a local or a global of that letter.
func holder(op, letter byte) signature {
	switch y := string(letter); op {
	case opGet, opGget:
		return signature{Results: y}
	case opTee:
		return signature{Params: y, Results: y}
	default:
		return signature{Params: y}
	}
}

// letter: the one that lies below as many others, above the floor.
func (c *checker) letter(below int) string {
	above := c.above()
	at := len(above) - 1 - below
	must(at >= 0, api.ErrStack)
	return above[at : at+1]
}

// pick: the one of that number.
func pick[T any](list []T, number int64) T {
	must(number >= 0 && number < int64(len(list)), api.ErrIndex)
	return list[number]
}

package lower

import (
	"flagon/api"
	"flagon/blocks"
	"flagon/control"
)

// The opcodes that have other ways than the one to the next pc, and that of the opener whose label leads back.
const (
	opTrap    = 0x00
	opLoop    = 0x03
	opIf      = 0x04
	opElse    = 0x05
	opEnd     = 0x06
	opBr      = 0x07
	opBrif    = 0x08
	opBrtable = 0x09
	opReturn  = 0x0a
)

const (
	body    = -1 // how control.Map tells the body where an opener's pc could stand
	noElse  = -1
	outside = -1 // where a way out of the function leads to
	noFloor = -1 // of a way on which nothing is dropped
)

// plan: what the lines of a function are made of.
type plan struct {
	types  []api.Sig
	own    api.Function
	table  api.Table
	owners []int // control.Map's
}

// planned: the plan of that function of a module that may run, with its table.
func planned(m api.Module, f int, t api.Table) plan {
	_, _, owners, _, _ := control.Map(m.Functions[f].Code)
	return plan{types: m.Types, own: m.Functions[f], table: t, owners: owners}
}

// lines: one for each pc.
func (p plan) lines() []Line {
	cut := blocks.Of(p.own.Code, p.table)
	list := make([]Line, len(p.own.Code))
	for pc, x := range p.own.Code {
		list[pc] = Line{Op: x.Op, A: x.A, Start: cut.Start[pc], Left: cut.Left[pc]}
		p.lay(&list[pc], pc, x)
	}
	return list
}

// lead gathers ways of a line, in their order.
func (l *Line) lead(ways ...Way) {
	l.Ways = append(l.Ways, ways...)
}

// lay lays the ways of x, which stands at pc.
func (p plan) lay(l *Line, pc int, x api.Ins) {
	switch x.Op {
	case opTrap:
	case opIf:
		l.lead(on(pc+1), on(p.otherwise(pc)))
	case opElse:
		l.lead(on(p.table.Ends[pc]))
	case opBr:
		l.lead(p.branch(pc, int(x.A)))
	case opBrif:
		l.lead(p.branch(pc, int(x.A)), on(pc+1))
	case opBrtable:
		for _, number := range x.L {
			l.lead(p.branch(pc, number))
		}
	case opEnd:
		if pc+1 < len(p.own.Code) { // an opener's: the body's is the last instruction
			l.lead(on(pc + 1))
			break
		}
		fallthrough
	case opReturn:
		l.lead(p.out())
	default:
		l.lead(on(pc + 1))
	}
}

// on: the way to that pc with all that is on the stack.
func on(pc int) Way {
	return Way{To: pc, Floor: noFloor}
}

// out: the way out of the function.
func (p plan) out() Way {
	return Way{To: outside, Keep: len(p.types[p.own.Type].Results)}
}

// otherwise: where an if goes on that is not taken. At its end, not behind it: the end is executed, too.
func (p plan) otherwise(pc int) int {
	if p.table.Elses[pc] != noElse {
		return p.table.Elses[pc] + 1
	}
	return p.table.Ends[pc]
}

// branch: the way of the label of that number at pc.
func (p plan) branch(pc, number int) Way {
	var label func(pc, number int) int
	label = func(pc, number int) int {
		owner := p.owners[pc]
		if number == 0 || owner == body {
			return owner
		}
		return label(owner, number-1)
	}
	return p.way(label(pc, number))
}

// way: that of a label.
func (p plan) way(label int) Way {
	if label == body {
		return p.out()
	}
	x := p.own.Code[label]
	sig, floor := p.types[x.A], p.table.Floors[label]
	if x.Op == opLoop {
		return Way{To: label + 1, Keep: len(sig.Params), Floor: floor}
	}
	return Way{To: p.table.Ends[label] + 1, Keep: len(sig.Results), Floor: floor}
}

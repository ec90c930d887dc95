package walk

import (
	"flagon/api"
	"flagon/nums"
)

const (
	opTrap = 0x00 + iota
	opNop
	opBlock
	opLoop
	opIf
	opElse
	opEnd
	opBr
	opBrif
	opBrtable
	opReturn
	opCall
	opHost
)

const (
	opDrop = 0x10 + iota
	opSelect
	opGet
	opSet
	opTee
	opGget
	opGset
)

const (
	opConstW = 0x18 + iota
	opConstL
)

const (
	opLoad8u = 0x20 + iota
	opLoad8s
	opLoad16u
	opLoad16s
	opLoadW
	opLoadL
	opStore8
	opStore16
	opStoreW
	opStoreL
	opSize
	opGrow
)

// Of the instructions of numbers these, and what lies between two of them, have two operands; the others have one.
const (
	opEqW   = 0x31
	opLeuW  = 0x36
	opAddW  = 0x3a
	opRotrW = 0x48
	opEqL   = 0x51
	opLeuL  = 0x56
	opAddL  = 0x5a
	opRotrL = 0x68
)

// widths: how many bytes a load or a store moves, by its place behind the first load.
var widths = [...]int{1, 1, 2, 2, 4, 8, 1, 2, 4, 8}

// do does what x does in the frame that runs; or it tells the trap, and then has changed nothing but that frame, which is gone, and the replies that were taken.
func (w *Walk) do(f *api.Frame, x api.Ins) (trap int8) {
	var top uint64
	switch op := x.Op; {
	case op <= opHost:
		return w.flow(f, x)
	case op <= opGset:
		w.hold(f, x)
	case op <= opConstL:
		push(f, constant(x))
	case op >= opStore8 && op <= opStoreL:
		top = pop(f)
		fallthrough
	case op <= opLoadL:
		trap = w.move(f, x, top)
	case op == opSize:
		push(f, uint64(w.memory.Size()))
	case op == opGrow:
		push(f, uint64(uint32(w.memory.Grow(pop(f)))))
	case op >= opEqW && op <= opLeuW, op >= opAddW && op <= opRotrW, op >= opEqL && op <= opLeuL, op >= opAddL && op <= opRotrL:
		top = pop(f)
		fallthrough
	default:
		var v uint64
		v, trap = nums.Do(op, pop(f), top)
		push(f, v)
	}
	f.Pc++
	return trap
}

// flow does what an instruction does that says itself where it goes on.
func (w *Walk) flow(f *api.Frame, x api.Ins) (trap int8) {
	switch x.Op {
	case opTrap:
		return api.TrapOp
	case opIf:
		if pop(f) == 0 {
			f.Pc = otherwise(w.tables[f.Function], f.Pc)
			break
		}
		fallthrough
	case opNop, opBlock, opLoop:
		f.Pc++
	case opElse:
		f.Pc = w.tables[f.Function].Ends[f.Pc]
	case opBrif:
		if pop(f) == 0 {
			f.Pc++
			break
		}
		fallthrough
	case opBr:
		w.branch(f, x.A)
	case opBrtable:
		at := min(pop(f), uint64(len(x.L)-1))
		w.branch(f, int64(x.L[at]))
	case opEnd:
		if f.Pc+1 < len(w.module.Functions[f.Function].Code) { // an opener's: the body's is the last instruction
			f.Pc++
			break
		}
		fallthrough
	case opReturn:
		w.leave(f)
	case opCall:
		return w.call(f, int(x.A))
	case opHost:
		return w.ask(f, int(x.A))
	}
	return api.TrapNone
}

// otherwise: where an if goes on that finds a 0. At its end, not behind it: the end is executed, too.
func otherwise(t api.Table, pc int) int {
	if t.Elses[pc] >= 0 {
		return t.Elses[pc] + 1
	}
	return t.Ends[pc]
}

// hold does what an instruction does to values that are held: on the stack, in locals, in globals.
func (w *Walk) hold(f *api.Frame, x api.Ins) {
	switch x.Op {
	case opDrop:
		pop(f)
	case opSelect: // not 0: the lower one of the two, which was there first
		if which, upper := pop(f), pop(f); which == 0 {
			pop(f)
			push(f, upper)
		}
	case opGet:
		push(f, f.Locals[x.A])
	case opTee: // a set of which the value stays
		push(f, f.Stack[len(f.Stack)-1])
		fallthrough
	case opSet:
		f.Locals[x.A] = pop(f)
	case opGget:
		push(f, w.state.Globals[x.A])
	case opGset:
		w.state.Globals[x.A] = pop(f)
	}
}

// constant: the number of x, as its letter holds it.
func constant(x api.Ins) uint64 {
	if x.Op == opConstW {
		return uint64(uint32(x.A))
	}
	return uint64(x.A)
}

// move does a load, or a store of v. Address and offset are numbers of 32 bits each, so that both together do not go round.
func (w *Walk) move(f *api.Frame, x api.Ins, v uint64) int8 {
	addr, n := pop(f)+uint64(x.A), widths[x.Op-opLoad8u]
	if x.Op >= opStore8 {
		if !w.memory.Store(addr, n, v) {
			return api.TrapMemory
		}
		return api.TrapNone
	}
	v, ok := w.memory.Load(addr, n)
	if !ok {
		return api.TrapMemory
	}
	push(f, carried(x.Op, v))
	return api.TrapNone
}

// carried: what was loaded, its sign carried on to 32 bits where the word has an s.
func carried(op byte, v uint64) uint64 {
	switch op {
	case opLoad8s:
		return uint64(uint32(int32(int8(v))))
	case opLoad16s:
		return uint64(uint32(int32(int16(v))))
	}
	return v
}

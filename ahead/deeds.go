package ahead

import (
	"flagon/api"
	"flagon/lower"
	"flagon/nums"
)

const (
	opTrap = 0x00 + iota
	opNop
	opBlock
	opLoop
	opIf
	opElse
	opEnd
	opBr
	opBrif
	opBrtable
	opReturn
	opCall
	opHost
)

const (
	opDrop = 0x10 + iota
	opSelect
	opGet
	opSet
	opTee
	opGget
	opGset
)

const (
	opConstW = 0x18 + iota
	opConstL
)

const (
	opLoad8u = 0x20 + iota
	opLoad8s
	opLoad16u
	opLoad16s
	opLoadW
	opLoadL
	opStore8
	opStore16
	opStoreW
	opStoreL
	opSize
	opGrow
)

// Of the instructions of numbers these, and what lies between two of them, have two operands; the others have one.
const (
	opEqW   = 0x31
	opLeuW  = 0x36
	opAddW  = 0x3a
	opRotrW = 0x48
	opEqL   = 0x51
	opLeuL  = 0x56
	opAddL  = 0x5a
	opRotrL = 0x68
)

// widths: how many bytes a load or a store moves, by its place behind the first load.
var widths = [...]int{1, 1, 2, 2, 4, 8, 1, 2, 4, 8}

// deed is what an instruction does, the engine's pc standing behind it already.
type deed func(n *engine, x *lower.Line)

// deeds: those of all instructions, by their opcodes.
func deeds() [256]deed {
	list := [256]deed{
		opTrap:    (*engine).trap,
		opNop:     (*engine).pass,
		opBlock:   (*engine).pass,
		opLoop:    (*engine).pass,
		opIf:      (*engine).either,
		opElse:    (*engine).only,
		opEnd:     (*engine).only,
		opBr:      (*engine).only,
		opBrif:    (*engine).either,
		opBrtable: (*engine).which,
		opReturn:  (*engine).only,
		opCall:    (*engine).call,
		opHost:    (*engine).ask,
		opDrop:    (*engine).drop,
		opSelect:  (*engine).choose,
		opGet:     (*engine).get,
		opSet:     (*engine).set,
		opTee:     (*engine).tee,
		opGget:    (*engine).getGlobal,
		opGset:    (*engine).setGlobal,
		opConstW:  (*engine).word,
		opConstL:  (*engine).long,
		opLoad8u:  (*engine).load,
		opLoad8s:  (*engine).load,
		opLoad16u: (*engine).load,
		opLoad16s: (*engine).load,
		opLoadW:   (*engine).load,
		opLoadL:   (*engine).load,
		opStore8:  (*engine).store,
		opStore16: (*engine).store,
		opStoreW:  (*engine).store,
		opStoreL:  (*engine).store,
		opSize:    (*engine).size,
		opGrow:    (*engine).grow,
	}
	for at := range list {
		switch op := byte(at); {
		case paired(op):
			list[at] = (*engine).pair
		case nums.Of(op):
			list[at] = (*engine).lone
		}
	}
	return list
}

// paired: is it an instruction of numbers with two operands?
func paired(op byte) bool {
	return op >= opEqW && op <= opLeuW || op >= opAddW && op <= opRotrW || op >= opEqL && op <= opLeuL || op >= opAddL && op <= opRotrL
}

func (n *engine) trap(*lower.Line) {
	n.fail(api.TrapOp)
}

func (n *engine) pass(*lower.Line) {}

// only: there is but one way.
func (n *engine) only(x *lower.Line) {
	n.follow(x.Ways[0])
}

// either: the first way is that of what is not 0.
func (n *engine) either(x *lower.Line) {
	if n.pop() != 0 {
		n.follow(x.Ways[0])
		return
	}
	n.follow(x.Ways[1])
}

// which: the last way is that of all that is above its place, too.
func (n *engine) which(x *lower.Line) {
	at := min(n.pop(), uint64(len(x.Ways)-1))
	n.follow(x.Ways[at])
}

// call: a frame of that function runs from now on; the other one waits at its call, not behind it.
func (n *engine) call(x *lower.Line) {
	if len(n.state.Frames) == api.MaxFrames {
		n.fail(api.TrapFrames)
		return
	}
	n.Pc--
	f := n.module.Functions[x.A]
	locals := n.take(len(n.module.Types[f.Type].Params))
	locals = append(locals, make([]uint64, len(f.Locals))...)
	n.state.Frames = append(n.state.Frames, api.Frame{Function: int(x.A), Locals: locals})
	n.enter()
}

// ask: what the host is told counts for nothing, for the script alone says what it replies.
func (n *engine) ask(x *lower.Line) {
	own := n.module.Types[n.module.Hosts[x.A]]
	n.take(len(own.Params))
	results, ok := n.host.Call(own.Results)
	if !ok {
		n.fail(api.TrapHost)
		return
	}
	n.push(results...)
}

func (n *engine) drop(*lower.Line) {
	n.pop()
}

// choose: not 0: the lower one of the two, which was there first.
func (n *engine) choose(*lower.Line) {
	if which, upper := n.pop(), n.pop(); which == 0 {
		n.pop()
		n.push(upper)
	}
}

func (n *engine) get(x *lower.Line) {
	n.push(n.Locals[x.A])
}

func (n *engine) set(x *lower.Line) {
	n.Locals[x.A] = n.pop()
}

func (n *engine) tee(x *lower.Line) {
	n.Locals[x.A] = n.Stack[len(n.Stack)-1]
}

func (n *engine) getGlobal(x *lower.Line) {
	n.push(n.state.Globals[x.A])
}

func (n *engine) setGlobal(x *lower.Line) {
	n.state.Globals[x.A] = n.pop()
}

// word: of a w the high 32 bits are 0, whatever the number's sign is.
func (n *engine) word(x *lower.Line) {
	n.push(uint64(uint32(x.A)))
}

func (n *engine) long(x *lower.Line) {
	n.push(uint64(x.A))
}

// load: address and offset are numbers of 32 bits each, so that both together do not go round.
func (n *engine) load(x *lower.Line) {
	v, ok := n.memory.Load(n.pop()+uint64(x.A), widths[x.Op-opLoad8u])
	if !ok {
		n.fail(api.TrapMemory)
		return
	}
	n.push(carried(x.Op, v))
}

// carried: what was loaded, its sign carried on to 32 bits where the word has an s.
func carried(op byte, v uint64) uint64 {
	switch op {
	case opLoad8s:
		return uint64(uint32(int8(v)))
	case opLoad16s:
		return uint64(uint32(int16(v)))
	}
	return v
}

func (n *engine) store(x *lower.Line) {
	v := n.pop()
	if !n.memory.Store(n.pop()+uint64(x.A), widths[x.Op-opLoad8u], v) {
		n.fail(api.TrapMemory)
	}
}

func (n *engine) size(*lower.Line) {
	n.push(uint64(n.memory.Size()))
}

// grow: the -1 of a memory that cannot is a w of 32 ones.
func (n *engine) grow(*lower.Line) {
	n.push(uint64(uint32(n.memory.Grow(n.pop()))))
}

func (n *engine) pair(x *lower.Line) {
	b := n.pop()
	n.number(x.Op, n.pop(), b)
}

func (n *engine) lone(x *lower.Line) {
	n.number(x.Op, n.pop(), 0)
}

func (n *engine) number(op byte, a, b uint64) {
	v, trap := nums.Do(op, a, b)
	if trap != api.TrapNone {
		n.fail(trap)
		return
	}
	n.push(v)
}

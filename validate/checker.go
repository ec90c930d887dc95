package validate

import (
	"flagon/api"
	"flagon/control"
	"flagon/shape"
)

// checker goes through the code of one function.
type checker struct {
	module api.Module
	locals []byte // letters, those of the parameters first
	table  api.Table
	open   []opened // what is open at pc, the body first
	stack  string   // the shape at pc
	pc     int
	dead   bool // a way's end stands right ahead of pc
}

// check: the table of a function of a module that may be told, or the first fault, and its pc.
func check(m api.Module, f api.Function) (table api.Table, e api.Errno, pc int) {
	ends, elses, _, e, pc := control.Map(f.Code)
	if e != api.OK {
		return api.Table{}, e, pc
	}
	own := m.Types[f.Type]
	c := &checker{module: m, locals: []byte(own.Params + f.Locals), open: []opened{body(own)}}
	c.table = api.Table{Shapes: make([]string, len(f.Code)), Ends: ends, Elses: elses, Floors: make([]int, len(f.Code))}
	defer func() {
		if broken := caught(recover()); broken != api.OK {
			table, e, pc = api.Table{}, broken, c.pc
		}
	}()
	for at, x := range f.Code {
		c.pc = at
		c.visit(x)
	}
	return c.table, api.OK, 0
}

// visit puts down the shape ahead of x, and goes on to the one behind it.
func (c *checker) visit(x api.Ins) {
	must(!c.dead || x.Op == opElse || x.Op == opEnd, api.ErrDead)
	c.dead = false
	c.table.Shapes[c.pc] = c.stack
	c.table.Floors[c.pc] = noFloor
	c.table.Highest = max(c.table.Highest, len(c.stack))
	c.row(x)
}

// inner: what was opened last.
func (c *checker) inner() *opened {
	return &c.open[len(c.open)-1]
}

// above: what can be taken, or asked for, at pc.
func (c *checker) above() string {
	return c.stack[len(c.inner().base):]
}

// ask: is that on top?
func (c *checker) ask(top string) {
	must(shape.Top(c.above(), top), api.ErrStack)
}

// take takes that off the top.
func (c *checker) take(top string) {
	c.ask(top)
	c.stack = c.stack[:len(c.stack)-len(top)]
}

// put puts that on top.
func (c *checker) put(more string) {
	high, e := shape.Push(c.stack, more)
	must(e == api.OK, e)
	c.stack = high
}

// leave: no way leads on from pc, so what stands behind it is what the innermost opener is left with.
func (c *checker) leave() {
	c.dead = true
	c.stack = c.inner().base
	c.put(c.inner().Results)
}

// must leaves the code, if what is asked at pc does not hold.
func must(holds bool, e api.Errno) {
	if !holds {
		panic(e)
	}
}

// caught: the error with which the code was left, if it was. Anything else that is thrown is a mistake of the program, and not hidden behind an answer.
func caught(thrown any) api.Errno {
	if thrown == nil {
		return api.OK
	}
	e, found := thrown.(api.Errno)
	if !found {
		panic(thrown)
	}
	return e
}

package module

import (
	"math"

	"flagon/api"
	"flagon/types"
)

const (
	word      = 'w' // the letter of 32 bits
	leastByte = 33  // of a name
	mostByte  = 126
)

// walk goes through the document's table 'The bytes', whichever way c goes: it hands over what m has, and answers the module that the bytes are of.
func walk(c coder, m api.Module) api.Module {
	var out api.Module
	out.Types = list(c, m.Types, api.MaxTypes, func(x api.Sig, ahead []api.Sig) api.Sig {
		return signature(c, x, ahead)
	})
	out.Hosts = list(c, m.Hosts, api.MaxHosts, func(x int, _ []int) int {
		return index(c, x, len(out.Types))
	})
	out.Globals = list(c, m.Globals, api.MaxGlobal, func(x api.Global, _ []api.Global) api.Global {
		return global(c, x)
	})
	out.First = pages(c, m.First, 0)
	out.Most = pages(c, m.Most, out.First)
	left := api.MaxAll
	out.Functions = list(c, m.Functions, api.MaxFuncs, func(x api.Function, _ []api.Function) api.Function {
		f := function(c, x, out.Types, left)
		left -= len(f.Code)
		return f
	})
	out.Data = list(c, m.Data, api.MaxData, func(x api.Data, ahead []api.Data) api.Data {
		return data(c, x, ahead, out.First*api.Page)
	})
	out.Exports = list(c, m.Exports, api.MaxExport, func(x api.Export, ahead []api.Export) api.Export {
		return export(c, x, ahead, len(out.Functions))
	})
	return out
}

// list goes through how many there are, and each one, which is handed those ahead of it. The answer is new memory: has is m's own.
func list[T any](c coder, has []T, most int, each func(x T, ahead []T) T) []T {
	var out []T
	for at := range c.count(len(has), most) {
		var x T
		if at < len(has) { // a reader is not handed any
			x = has[at]
		}
		out = append(out, each(x, out))
	}
	return out
}

// index goes through the number of one of n. As one without a sign, a number below 0 is too great.
func index(c coder, x, n int) int {
	return int(c.number(uint64(x), func(v uint64, at int) {
		must(v < uint64(n), api.ErrIndex, at)
	}))
}

func pages(c coder, x, least int) int {
	return int(c.number(uint64(x), func(v uint64, at int) {
		must(v >= uint64(least) && v <= api.MaxPages, api.ErrRange, at)
	}))
}

// letters: the bound of a text is asked where its length stands, and is never above that of a shape.
func letters(s string, at int) {
	must(types.Shape(s), api.ErrType, at)
}

func signature(c coder, x api.Sig, ahead []api.Sig) api.Sig {
	begin := c.place()
	params := c.text(x.Params, api.MaxArity, letters)
	results := c.text(x.Results, api.MaxArity, func(s string, at int) {
		letters(s, at)
		for _, other := range ahead {
			must(other != api.Sig{Params: params, Results: s}, api.ErrTwice, begin)
		}
	})
	return api.Sig{Params: params, Results: results}
}

func global(c coder, x api.Global) api.Global {
	letter := c.octet(x.Letter, func(v byte, at int) {
		must(types.Letter(v), api.ErrType, at)
	})
	mutable := c.octet(flag(x.Mutable), func(v byte, at int) {
		must(v == flag(false) || v == flag(true), api.ErrRange, at)
	})
	value := c.signed(withSign(x), func(v int64, at int) {
		must(letter != word || v == int64(int32(v)), api.ErrRange, at)
	})
	return api.Global{Letter: letter, Mutable: mutable == flag(true), Value: withoutSign(letter, value)}
}

func flag(set bool) byte {
	if set {
		return 1
	}
	return 0
}

// withSign: the number that the value is told as. Of a w, one of more than 32 bits must not wrap round to one that may be.
func withSign(x api.Global) int64 {
	if x.Letter != word {
		return int64(x.Value)
	}
	if !types.Fits(x.Value, word) {
		return math.MaxInt64
	}
	return int64(int32(x.Value))
}

// withoutSign: the value that is told as that number; of a w the high 32 bits stay 0.
func withoutSign(letter byte, v int64) uint64 {
	if letter == word {
		return uint64(uint32(v))
	}
	return uint64(v)
}

// function: left is how many instructions the module may still have.
func function(c coder, x api.Function, sigs []api.Sig, left int) api.Function {
	kind := index(c, x.Type, len(sigs))
	locals := c.text(x.Locals, api.MaxLocals-len(sigs[kind].Params), letters)
	code := list(c, x.Code, min(api.MaxCode, left), func(x api.Ins, _ []api.Ins) api.Ins {
		return c.instruction(x)
	})
	return api.Function{Type: kind, Locals: locals, Code: code}
}

// data: room is how many bytes the memory has at the beginning.
func data(c coder, x api.Data, ahead []api.Data, room int) api.Data {
	start := int(c.number(uint64(x.At), func(v uint64, at int) {
		must(v <= uint64(room), api.ErrRange, at)
		must(len(ahead) == 0 || int(v) > behind(ahead), api.ErrOrder, at)
	}))
	s := c.text(string(x.B), room-start, func(s string, at int) {
		must(s != "", api.ErrRange, at)
	})
	return api.Data{At: start, B: []byte(s)}
}

// behind: the place behind the last one; the next one touching it would be a second form of both as one.
func behind(ahead []api.Data) int {
	last := ahead[len(ahead)-1]
	return last.At + len(last.B)
}

func export(c coder, x api.Export, ahead []api.Export, functions int) api.Export {
	name := c.text(x.Name, api.MaxName, func(s string, at int) {
		must(isName(s), api.ErrName, at)
		must(len(ahead) == 0 || s > ahead[len(ahead)-1].Name, api.ErrOrder, at)
	})
	return api.Export{Name: name, Function: index(c, x.Function, functions)}
}

func isName(s string) bool {
	for _, c := range []byte(s) {
		if c < leastByte || c > mostByte {
			return false
		}
	}
	return s != ""
}

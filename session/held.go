package session

import (
	"flagon/api"
	"flagon/validate"
)

// stage: how far a session has come. Each has what those ahead of it have.
type stage int8

const (
	plain  stage = iota // New did not make it
	empty               // it has a script alone
	loaded              // and a module
	begun               // and a state
)

// held is what a session has: the module may run, and the state is one of it.
type held struct {
	stage  stage
	script []api.Reply
	module api.Module
	state  api.State
}

// place: what stands beside an error of a module.
type place struct{ at, pc int }

// take: a module that was read is the one from now on, if it was read and may run.
func (h *held) take(m api.Module, e api.Errno, at int) (place, api.Errno) {
	if e != api.OK {
		return place{at: at}, e
	}
	if _, e, function, pc := validate.Module(m); e != api.OK {
		return place{at: function, pc: pc}, e
	}
	*h = held{stage: loaded, module: m}
	return place{}, api.OK
}

// stand: a run stands there from now on.
func (h *held) stand(s api.State) {
	h.stage, h.state = begun, s
}

// guarded: what a call answers of a session that New made and that has come as far as that stage; of any other one why it is not made, and no answer.
func guarded[T any](s *Session, least stage, call func() (T, api.Errno)) (T, api.Errno) {
	var none T
	switch {
	case s == nil || s.stage == plain:
		return none, api.ErrArg
	case s.stage < least:
		return none, api.ErrNone
	}
	return call()
}

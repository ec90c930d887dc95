// Package own makes copies, in memory of their own, of what is handed in and is kept from call to call: whoever handed it in may change it afterwards.
package own

import "flagon/api"

// Module: the same module; whether it may run is not asked.
func Module(m api.Module) api.Module {
	m.Types, m.Hosts, m.Globals = fresh(m.Types), fresh(m.Hosts), fresh(m.Globals)
	m.Functions, m.Data, m.Exports = fresh(m.Functions), fresh(m.Data), fresh(m.Exports)
	for at, f := range m.Functions {
		m.Functions[at].Code = code(f.Code)
	}
	for at, d := range m.Data {
		m.Data[at].B = fresh(d.B)
	}
	return m
}

// Script: the same replies.
func Script(list []api.Reply) []api.Reply {
	list = fresh(list)
	for at, reply := range list {
		list[at].Results = fresh(reply.Results)
	}
	return list
}

func code(list []api.Ins) []api.Ins {
	list = fresh(list)
	for at, x := range list {
		list[at].L = fresh(x.L)
	}
	return list
}

// fresh: the same elements in a list of its own.
func fresh[T any](list []T) []T {
	return append([]T(nil), list...)
}

// Package anew answers what it is given in memory of its own: what is answered shares none with what was handed in, nor one list of it with another, though those handed in may.
package anew

import (
	"bytes"
	"slices"

	"hocket/api"
)

// Each answers a row of its own of what one makes of each in l.
func Each[T any](l []T, one func(T) T) []T {
	out := make([]T, 0, len(l))
	for _, x := range l {
		out = append(out, one(x))
	}
	return out
}

// Pair answers p anew.
func Pair(p api.Pair) api.Pair {
	return api.Pair{Key: bytes.Clone(p.Key), Val: bytes.Clone(p.Val)}
}

// Objects answers s anew.
func Objects(s api.Objects) api.Objects {
	return api.Objects{Reg: bytes.Clone(s.Reg), Queue: Each(s.Queue, bytes.Clone), Lock: slices.Clone(s.Lock), Map: Each(s.Map, Pair)}
}

// Result answers r anew.
func Result(r api.Result) api.Result {
	return api.Result{Err: r.Err, Val: bytes.Clone(r.Val), N: r.N}
}

// Last answers l anew.
func Last(l api.Last) api.Last {
	return api.Last{Sess: l.Sess, Seq: l.Seq, Result: Result(l.Result)}
}

// Machine answers m anew.
func Machine(m api.Machine) api.Machine {
	return api.Machine{Objects: Objects(m.Objects), Table: Each(m.Table, Last)}
}

// Cmd answers c anew.
func Cmd(c api.Cmd) api.Cmd {
	return api.Cmd{Kind: c.Kind, Who: c.Who, Key: bytes.Clone(c.Key), Val: bytes.Clone(c.Val), Old: bytes.Clone(c.Old)}
}

// Entry answers e anew.
func Entry(e api.Entry) api.Entry {
	return api.Entry{Sess: e.Sess, Seq: e.Seq, Cmd: Cmd(e.Cmd)}
}

// Msg answers m anew.
func Msg(m api.Msg) api.Msg {
	// Of a message most fields are numbers: they come along as they are.
	m.Data = bytes.Clone(m.Data)
	m.Have = slices.Clone(m.Have)
	m.Need = slices.Clone(m.Need)
	m.Entry = Entry(m.Entry)
	return m
}

package class

import (
	"slices"

	"warpbeam/api"
	"warpbeam/code"
	"warpbeam/descr"
	"warpbeam/pool"
)

// thing is what a class, or one of its methods, has a list of.
type thing int

const (
	interfaces thing = iota
	fields
	methods
	handlers
	things // how many of these there are
)

// most is how many of each thing there may be.
var most = [things]int{interfaces: 64, fields: api.MaxFields, methods: api.MaxMethods, handlers: 256}

// mayBe tells whether a class may be.
func mayBe(c api.Class) bool {
	return pool.Check(c.Pool) == api.OK && descr.IsName(c.Name) && (c.Super == "" || descr.IsName(c.Super)) &&
		all(c.Interfaces, interfaces, descr.IsName) &&
		all(c.Fields, fields, fieldMayBe) &&
		all(c.Methods, methods, func(m api.Method) bool { return methodMayBe(m, c.Pool) })
}

// all tells whether there are no more of a thing than there may be, and something holds of each of them.
func all[E any](l []E, t thing, holds func(E) bool) bool {
	return len(l) <= most[t] && !slices.ContainsFunc(l, func(x E) bool { return !holds(x) })
}

func fieldMayBe(f api.Field) bool {
	return descr.IsName(f.Name) && descr.CheckType(f.Type) == api.OK
}

func methodMayBe(m api.Method, consts []api.Const) bool {
	if !descr.IsName(m.Name) || descr.CheckProto(m.Proto) != api.OK {
		return false
	}
	if m.Abstract {
		return !m.Static && m.Stack == 0 && m.Locals == 0 && len(m.Code) == 0 && len(m.Handlers) == 0
	}
	_, _, e := code.Check(m, consts)
	return e == api.OK
}

package code

import (
	"slices"

	"warpbeam/api"
	"warpbeam/ops"
)

// mostHandlers is how many handlers a method may have.
const mostHandlers = 256

// unfit is where the first instruction begins that names a local or a constant that there is not: false, if there is none.
func unfit(l []api.Ins, locals int, pool []api.Const) (int, bool) {
	return firstBut(l, func(x api.Ins) bool { return localFits(x, locals) && constFits(x, pool) })
}

// localFits tells whether there is the local that an instruction has, if it has one; a long takes the next one, too.
func localFits(x api.Ins, locals int) bool {
	switch x.Op {
	case ops.OpIload, ops.OpAload, ops.OpIstore, ops.OpAstore, ops.OpIinc:
		return x.N < locals
	case ops.OpLload, ops.OpLstore:
		return x.N+1 < locals
	}
	return true
}

// constFits tells whether the constant that an instruction has, if it has one, is such as it needs.
func constFits(x api.Ins, pool []api.Const) bool {
	switch x.Op {
	case ops.OpLdc:
		return isConst(pool, x.N, api.ConstInt, api.ConstLong)
	case ops.OpGetstatic, ops.OpPutstatic, ops.OpGetfield, ops.OpPutfield:
		return isConst(pool, x.N, api.ConstField)
	case ops.OpNew, ops.OpNewrefs, ops.OpCast, ops.OpIs:
		return isConst(pool, x.N, api.ConstClass)
	case ops.OpCallstatic, ops.OpCallvirtual, ops.OpCallinterface, ops.OpCallspecial:
		return isConst(pool, x.N, api.ConstMethod)
	}
	return true
}

// isConst tells whether i is the place of a constant of one of those kinds. (The first one is none, whatever the list says of it.)
func isConst(pool []api.Const, i int, kinds ...int) bool {
	return i > 0 && i < len(pool) && slices.Contains(kinds, pool[i].Kind)
}

// roomFits tells whether a method has no more words than it may have.
func roomFits(m api.Method) bool {
	return m.Stack >= 0 && m.Stack <= api.MaxStack && m.Locals >= 0 && m.Locals <= api.MaxLocals
}

// handlersFit tells whether a method's handlers fit its instructions and the constants.
func handlersFit(m api.Method, l []api.Ins, pool []api.Const) bool {
	if len(m.Handlers) > mostHandlers {
		return false
	}
	begins := beginnings(l)
	fits := func(h api.Handler) bool {
		return begins(h.From) && begins(h.At) && h.To > h.From &&
			(begins(h.To) || h.To == len(m.Code)) && (h.Class == 0 || isConst(pool, h.Class, api.ConstClass))
	}
	return !slices.ContainsFunc(m.Handlers, func(h api.Handler) bool { return !fits(h) })
}

package layout

import (
	"slices"

	"warpbeam/api"
)

// fault is the error of a class that does not fit.
func (l *Layout) fault(i int) api.Errno {
	if l.twice(i) {
		return api.ErrTwice
	}
	if l.mistyped(i) || l.unlike(i) || l.mixed(i) || l.lacking(i) {
		return api.ErrLink
	}
	return api.OK
}

// twice tells whether two fields of a class have the same name, or two methods the same name and proto.
func (l *Layout) twice(i int) bool {
	c := l.class(i)
	return len(c.named) < len(c.fields) || len(c.signed) < c.end-c.first
}

// mistyped tells whether a class has a field of a type, or a method of a proto, that may not be.
func (l *Layout) mistyped(i int) bool {
	mayNot := func(t api.Type) bool { return !l.set.MayType(t) }
	isField := func(f Place) bool { return mayNot(f.Type) }
	isMethod := func(m method) bool {
		p := m.Proto
		return len(p.Args) > api.MaxArgs || slices.ContainsFunc(p.Args, mayNot) || p.Ret != (api.Type{}) && mayNot(p.Ret)
	}
	return slices.ContainsFunc(l.class(i).fields, isField) || slices.ContainsFunc(l.methodsOf(i), isMethod)
}

// unlike tells whether a class has what only an interface, or only another class, may have.
func (l *Layout) unlike(i int) bool {
	isInterface := l.set.IsInterface(i)
	isField := func(f Place) bool { return isInterface && !f.Static }
	isMethod := func(m method) bool {
		if m.Static {
			return m.Abstract
		}
		return m.Abstract != isInterface
	}
	return slices.ContainsFunc(l.class(i).fields, isField) || slices.ContainsFunc(l.methodsOf(i), isMethod)
}

// mixed tells whether a class has a static method where one of the same name and proto that is not stands in a class above; or the other way round. Interfaces are no classes above: what they have does not mix with what a class has.
func (l *Layout) mixed(i int) bool {
	return slices.ContainsFunc(l.methodsOf(i), func(m method) bool {
		_, is := l.first(l.upwards(i), m.sign, func(other *method) bool { return other.Static != m.Static })
		return is
	})
}

// lacking tells whether a class that is no interface has not all that its interfaces, and those above, ask for.
func (l *Layout) lacking(i int) bool {
	if l.set.IsInterface(i) {
		return false
	}
	isMissing := func(m method) bool {
		if !m.Abstract {
			return false
		}
		_, is := l.first(l.upwards(i), m.sign, func(other *method) bool { return !other.Static })
		return !is
	}
	for up := range l.above(i) {
		if l.set.IsInterface(up) && slices.ContainsFunc(l.methodsOf(up), isMissing) {
			return true
		}
	}
	return false
}

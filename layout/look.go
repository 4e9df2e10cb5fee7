package layout

import (
	"iter"
	"strconv"

	"warpbeam/api"
	"warpbeam/link"
)

// class is a class of the layout; of a number that is no class's, one that has nothing.
func (l *Layout) class(i int) *class {
	if l == nil || i < 0 || i >= len(l.classes) {
		return &class{}
	}
	return &l.classes[i]
}

// above ranges over all above a class, itself first, in the order in which methods are looked for.
func (l *Layout) above(i int) iter.Seq[int] {
	return func(yield func(int) bool) {
		for _, up := range l.class(i).above {
			if !yield(up) {
				return
			}
		}
	}
}

// upwards ranges over a class, the one above it, and so on up to Object.
func (l *Layout) upwards(i int) iter.Seq[int] {
	return func(yield func(int) bool) {
		for up := i; up >= 0; up = l.Set().Super(up) {
			if !yield(up) {
				return
			}
		}
	}
}

// methodsOf are the methods that a class has itself.
func (l *Layout) methodsOf(i int) []method {
	c := l.class(i)
	return l.methods[c.first:c.end]
}

// first is the number of the first method that has a sign, and of which that is so, through classes.
func (l *Layout) first(classes iter.Seq[int], sign string, isSo func(m *method) bool) (int, bool) {
	for i := range classes {
		for _, n := range l.class(i).signed[sign] {
			if isSo(&l.methods[n]) {
				return n, true
			}
		}
	}
	return 0, false
}

// signOf is a method's sign: a text that those of one name and proto have in common, and no others. Each name in it stands behind its length.
func signOf(name string, p api.Proto) string {
	b := addText(nil, name)
	b = addType(b, p.Ret)
	for _, t := range p.Args {
		b = addType(b, t)
	}
	return string(b)
}

func addType(b []byte, t api.Type) []byte { return addText(addNumber(b, t.Kind), t.Name) }

func addText(b []byte, s string) []byte { return append(addNumber(b, len(s)), s...) }

func addNumber(b []byte, n int) []byte { return append(strconv.AppendInt(b, int64(n), 10), ' ') }

// Set is the set whose layout it is.
func (l *Layout) Set() *link.Set {
	if l == nil {
		return nil
	}
	return l.set
}

// Slots are the types of the fields of a class's objects.
func (l *Layout) Slots(class int) []api.Type {
	types := make([]api.Type, l.class(class).slots)
	for i := range l.upwards(class) {
		for _, f := range l.class(i).fields {
			if !f.Static {
				types[f.Slot] = own(f.Type)
			}
		}
	}
	return types
}

// Statics are the types of all static fields.
func (l *Layout) Statics() []api.Type {
	var types []api.Type
	for i := range l.Set().Len() {
		for _, f := range l.class(i).fields {
			if f.Static {
				types = append(types, own(f.Type))
			}
		}
	}
	return types
}

// Field is where a class's field of a name lies.
func (l *Layout) Field(class int, name string) (Place, bool) {
	for i := range l.above(class) {
		c := l.class(i)
		if at, is := c.named[name]; is {
			place := c.fields[at]
			place.Type = own(place.Type)
			return place, true
		}
	}
	return Place{}, false
}

// Methods is how many methods there are.
func (l *Layout) Methods() int {
	if l == nil {
		return 0
	}
	return len(l.methods)
}

// Method is where a method stands: its class, and its place there.
func (l *Layout) Method(n int) (class, index int, is bool) {
	if n < 0 || n >= l.Methods() {
		return 0, 0, false
	}
	m := &l.methods[n]
	return m.class, m.index, true
}

// Find is the number of the method that is meant by a class, a name and a proto.
func (l *Layout) Find(class int, name string, p api.Proto) (int, bool) {
	return l.first(l.above(class), signOf(name, p), func(*method) bool { return true })
}

// Call is the number of the method of a name and a proto that an object of a class has.
func (l *Layout) Call(class int, name string, p api.Proto) (int, bool) {
	return l.first(l.upwards(class), signOf(name, p), func(m *method) bool { return !m.Static && !m.Abstract })
}

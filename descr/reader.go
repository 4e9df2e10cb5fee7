package descr

import (
	"strings"

	"warpbeam/api"
)

// left is what is left of a text that is read.
type left struct{ text string }

// skip goes on behind a mark, and tells whether it stood there.
func (l *left) skip(mark string) bool {
	rest, found := strings.CutPrefix(l.text, mark)
	l.text = rest
	return found
}

// upTo goes on behind the next such mark, and answers what stood ahead of it: false, if there is none.
func (l *left) upTo(mark string) (string, bool) {
	ahead, rest, found := strings.Cut(l.text, mark)
	l.text = rest
	return ahead, found
}

// empty tells whether nothing is left.
func (l *left) empty() bool {
	return l.text == ""
}

// reader reads a text, and keeps whether anything in it was wrong.
type reader struct {
	left
	wrong bool
}

// fail keeps that something was wrong, and answers no type.
func (r *reader) fail() api.Type {
	r.wrong = true
	return api.Type{}
}

// args reads what a proto takes, with the marks around it.
func (r *reader) args() []api.Type {
	if !r.skip(argsMark) {
		r.fail()
	}
	var l []api.Type
	for !r.wrong && !r.skip(argsEnd) {
		// Looked at ahead of each one, so that a text of no end of them is left at once.
		if len(l) == api.MaxArgs {
			r.fail()
			break
		}
		l = append(l, r.typ())
	}
	return l
}

// ret reads what a proto answers.
func (r *reader) ret() api.Type {
	if r.skip(voidMark) {
		return api.Type{}
	}
	return r.typ()
}

// typ reads a type.
func (r *reader) typ() api.Type {
	if !r.skip(arrayMark) {
		return r.single()
	}
	// There is an array of each single type; where one was wrong, single has kept that.
	t, _ := Over(r.single())
	return t
}

// single reads a type that is no array's.
func (r *reader) single() api.Type {
	switch {
	case r.skip(intMark):
		return api.Type{Kind: api.KindInt}
	case r.skip(longMark):
		return api.Type{Kind: api.KindLong}
	case r.skip(refMark):
		return r.ref()
	}
	return r.fail()
}

// ref reads the name of a class, and the mark behind it.
func (r *reader) ref() api.Type {
	name, ended := r.upTo(refEnd)
	if !ended || !IsName(name) {
		return r.fail()
	}
	return api.Type{Kind: api.KindRef, Name: strings.Clone(name)}
}

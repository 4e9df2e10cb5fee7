package pool

import (
	"bytes"

	"warpbeam/api"
	"warpbeam/leb"
	"warpbeam/text"
)

// numberRoom is more bytes than a short number has, be it right or wrong.
const numberRoom = 16

// kinds is how many kinds of constants there are, the one of none among them.
const kinds = api.ConstMethod + 1

// left is what is left of bytes that are read.
type left struct{ row []byte }

// first are so many bytes of what is left, or all, if there are fewer.
func (l *left) first(n int) []byte {
	return l.row[:min(n, len(l.row))]
}

// drop goes on behind so many bytes.
func (l *left) drop(n int) {
	l.row = l.row[n:]
}

// copied is what is left, in memory of its own.
func (l *left) copied() []byte {
	return bytes.Clone(l.row)
}

// reader reads bytes. Once something was wrong it keeps that error, and reads nothing but zeros.
type reader struct {
	left
	fault api.Errno
}

// fail keeps an error, if it is the first one.
func (r *reader) fail(e api.Errno) {
	if r.fault == api.OK {
		r.fault = e
	}
}

// take takes so many bytes.
func (r *reader) take(n int) []byte {
	row := r.first(n)
	if len(row) < n {
		r.fail(api.ErrTrunc)
	}
	if r.fault != api.OK {
		return nil
	}
	r.drop(n)
	return row
}

// number takes a number in one of leb's ways. That gets no more than it may need: it copies what stands behind the number.
func (r *reader) number(way func([]byte) (int, []byte, api.Errno)) int {
	row := r.first(numberRoom)
	n, behind, e := way(row)
	r.fail(e)
	if r.fault != api.OK {
		return 0
	}
	r.drop(len(row) - len(behind))
	return n
}

// count takes how many constants there are.
func (r *reader) count() int {
	n := r.number(leb.TakeU)
	if n > api.MaxPool {
		r.fail(api.ErrLimit)
		return 0
	}
	return n
}

// kind takes a constant's kind: 0, if that is none.
func (r *reader) kind() int {
	row := r.take(1)
	if len(row) == 0 || row[0] >= kinds {
		return 0
	}
	return int(row[0])
}

// byKind are the ways of reading what stands behind a constant's kind, each at that kind's place.
func byKind() [kinds]func(*reader) api.Const {
	return [kinds]func(*reader) api.Const{
		0:               (*reader).none,
		api.ConstText:   (*reader).text,
		api.ConstInt:    (*reader).num,
		api.ConstLong:   (*reader).num,
		api.ConstClass:  (*reader).class,
		api.ConstField:  (*reader).member,
		api.ConstMethod: (*reader).member,
	}
}

// none stands for the kinds that are none.
func (r *reader) none() api.Const {
	r.fail(api.ErrSyntax)
	return api.Const{}
}

// text takes a text.
func (r *reader) text() api.Const {
	s, _, e := text.Decode(r.take(r.number(leb.TakeU)))
	r.fail(e)
	return api.Const{Text: s}
}

// num takes the number of an int, or of a long.
func (r *reader) num() api.Const {
	return api.Const{N: r.number(leb.TakeS)}
}

// class takes the number of a class's name.
func (r *reader) class() api.Const {
	return api.Const{A: r.number(leb.TakeU)}
}

// member takes the numbers of a field, or of a method.
func (r *reader) member() api.Const {
	a, b, c := r.number(leb.TakeU), r.number(leb.TakeU), r.number(leb.TakeU)
	return api.Const{A: a, B: b, C: c}
}

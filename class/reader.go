package class

import (
	"bytes"

	"warpbeam/api"
	"warpbeam/descr"
	"warpbeam/leb"
	"warpbeam/pool"
)

// numberRoom is as many bytes as a number has at most.
const numberRoom = 8

// reader reads bytes. Once something was wrong it keeps that, and reads nothing but zeros.
type reader struct {
	row   []byte // what is left
	wrong bool
}

// keep keeps that something was wrong, if there was an error.
func (r *reader) keep(e api.Errno) {
	r.wrong = r.wrong || e != api.OK
}

// bytes takes so many bytes. They are what was handed in, not a copy.
func (r *reader) bytes(n int) []byte {
	if n > len(r.row) {
		r.wrong = true
	}
	if r.wrong {
		return nil
	}
	row := r.row[:n]
	r.row = r.row[n:]
	return row
}

// number takes a number. leb gets no more bytes than it may need: it copies what stands behind the number.
func (r *reader) number() int {
	row := r.row[:min(numberRoom, len(r.row))]
	n, behind, e := leb.TakeU(row)
	r.keep(e)
	if r.wrong {
		return 0
	}
	r.bytes(len(row) - len(behind))
	return n
}

// upTo takes a number that may not be above another one.
func (r *reader) upTo(limit int) int {
	n := r.number()
	if n > limit {
		r.wrong = true
		return 0
	}
	return n
}

// text takes a text.
func (r *reader) text() string {
	return string(r.bytes(r.number()))
}

// list takes a list of a thing: how many there are, and these, one by one.
func list[E any](r *reader, t thing, one func() E) []E {
	n := r.upTo(most[t])
	var l []E
	for len(l) < n && !r.wrong {
		l = append(l, one())
	}
	return l
}

// class takes a class.
func (r *reader) class() api.Class {
	var c api.Class
	if string(r.bytes(len(head))) != head {
		r.wrong = true
	}
	c.Pool = r.pool()
	c.Interface = r.upTo(anInterface) == anInterface
	c.Name, c.Super = r.text(), r.text()
	c.Interfaces = list(r, interfaces, r.text)
	c.Fields = list(r, fields, r.field)
	c.Methods = list(r, methods, r.method)
	return c
}

// pool takes the constants.
func (r *reader) pool() []api.Const {
	l, behind, e := pool.Parse(r.row)
	r.keep(e)
	r.bytes(len(r.row) - len(behind))
	return l
}

// typ takes a type, written.
func (r *reader) typ() api.Type {
	t, e := descr.Type(r.text())
	r.keep(e)
	return t
}

// proto takes a proto, written.
func (r *reader) proto() api.Proto {
	p, e := descr.Proto(r.text())
	r.keep(e)
	return p
}

// field takes a field.
func (r *reader) field() api.Field {
	isStatic := r.upTo(static) == static
	name := r.text()
	return api.Field{Static: isStatic, Name: name, Type: r.typ()}
}

// method takes a method.
func (r *reader) method() api.Method {
	mark := r.upTo(abstract)
	m := api.Method{Static: mark == static, Abstract: mark == abstract}
	m.Name = r.text()
	m.Proto = r.proto()
	if m.Abstract {
		return m
	}
	m.Stack, m.Locals = r.number(), r.number()
	m.Code = bytes.Clone(r.bytes(r.number()))
	m.Handlers = list(r, handlers, r.handler)
	return m
}

// handler takes a handler.
func (r *reader) handler() api.Handler {
	from, to, at, class := r.number(), r.number(), r.number(), r.number()
	return api.Handler{From: from, To: to, At: at, Class: class}
}

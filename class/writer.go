package class

import (
	"warpbeam/api"
	"warpbeam/descr"
	"warpbeam/leb"
)

// writer writes what may be, one behind the other.
type writer struct {
	row []byte
}

// numbers writes numbers.
func (w *writer) numbers(l ...int) {
	for _, n := range l {
		row, _ := leb.U(n)
		w.row = append(w.row, row...)
	}
}

// mark writes a mark, if what it says is so.
func (w *writer) mark(is bool, mark int) {
	if !is {
		mark = plain
	}
	w.numbers(mark)
}

// text writes a text.
func (w *writer) text(s string) {
	w.numbers(len(s))
	w.row = append(w.row, s...)
}

// put writes a list: how many there are, and these, one by one.
func put[E any](w *writer, l []E, one func(E)) {
	w.numbers(len(l))
	for _, x := range l {
		one(x)
	}
}

// class writes what stands behind a class's constants.
func (w *writer) class(c api.Class) {
	w.mark(c.Interface, anInterface)
	w.text(c.Name)
	w.text(c.Super)
	put(w, c.Interfaces, w.text)
	put(w, c.Fields, w.field)
	put(w, c.Methods, w.method)
}

// field writes a field.
func (w *writer) field(f api.Field) {
	w.mark(f.Static, static)
	w.text(f.Name)
	typ, _ := descr.WriteType(f.Type)
	w.text(typ)
}

// method writes a method.
func (w *writer) method(m api.Method) {
	if m.Abstract {
		w.numbers(abstract)
	} else {
		w.mark(m.Static, static)
	}
	w.text(m.Name)
	proto, _ := descr.WriteProto(m.Proto)
	w.text(proto)
	if m.Abstract {
		return
	}
	w.numbers(m.Stack, m.Locals)
	w.text(string(m.Code))
	put(w, m.Handlers, w.handler)
}

// handler writes a handler.
func (w *writer) handler(h api.Handler) {
	w.numbers(h.From, h.To, h.At, h.Class)
}

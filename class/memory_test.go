package class_test

import (
	"bytes"
	"reflect"
	"slices"
	"testing"
	"unsafe"

	"warpbeam/api"
	"warpbeam/class"
)

// span is a piece of memory.
type span struct {
	what     string
	from, to uintptr
}

// meets tells whether two pieces of memory have a byte in common.
func (s span) meets(o span) bool {
	return s.from < o.to && o.from < s.to
}

// listSpan is where a list lies, its spare room with it.
func listSpan[E any](what string, l []E) span {
	var one E
	from := uintptr(unsafe.Pointer(unsafe.SliceData(l)))
	return span{what, from, from + uintptr(cap(l))*unsafe.Sizeof(one)}
}

// listsOf is where all lists of a class lie.
func listsOf(c api.Class) []span {
	l := []span{listSpan("Pool", c.Pool), listSpan("Interfaces", c.Interfaces), listSpan("Fields", c.Fields), listSpan("Methods", c.Methods)}
	for _, m := range c.Methods {
		l = append(l, listSpan("Args of "+m.Name, m.Proto.Args), listSpan("Code of "+m.Name, m.Code), listSpan("Handlers of "+m.Name, m.Handlers))
	}
	return slices.DeleteFunc(l, func(s span) bool { return s.from == s.to })
}

// textsOf is where all texts of a class lie.
func textsOf(c api.Class) []span {
	texts := []string{c.Name, c.Super}
	texts = append(texts, c.Interfaces...)
	for _, x := range c.Pool {
		texts = append(texts, x.Text)
	}
	for _, f := range c.Fields {
		texts = append(texts, f.Name, f.Type.Name)
	}
	for _, m := range c.Methods {
		texts = append(texts, m.Name, m.Proto.Ret.Name)
		for _, typ := range m.Proto.Args {
			texts = append(texts, typ.Name)
		}
	}
	var l []span
	for _, s := range texts {
		if s != "" {
			from := uintptr(unsafe.Pointer(unsafe.StringData(s)))
			l = append(l, span{"text " + s, from, from + uintptr(len(s))})
		}
	}
	return l
}

// wantApart tells that no piece of memory of the one kind meets one of the other kind.
func wantApart(t *testing.T, l, m []span) {
	t.Helper()
	for _, a := range l {
		for _, b := range m {
			if a.meets(b) {
				t.Errorf("%.60s and %.60s share memory", a.what, b.what)
			}
		}
	}
}

// roomy is a list with spare room, in which something stands.
func roomy[E any](l []E, beyond ...E) []E {
	return slices.Concat(l, beyond)[:len(l)]
}

// whole is a list with what stands in its spare room, in memory of its own.
func whole[E any](l []E) []E {
	return slices.Clone(l[:cap(l)])
}

// allRoomy is a class all of whose lists have spare room.
func allRoomy(c api.Class) api.Class {
	c.Pool = roomy(c.Pool, api.Const{Kind: 4, A: 1}, api.Const{Kind: 9})
	c.Interfaces = roomy(c.Interfaces, "spare", "1")
	c.Fields = roomy(c.Fields, api.Field{Name: "spare"}, api.Field{})
	c.Methods = roomy(c.Methods, hollow, api.Method{Name: "spare"})
	for i, m := range c.Methods {
		m.Proto.Args, m.Code, m.Handlers = roomy(m.Proto.Args, aRef, api.Type{}), roomy(m.Code, 0x5A, 86), roomy(m.Handlers, api.Handler{To: -1})
		c.Methods[i] = m
	}
	return c
}

// allOf is a class with what stands in its lists' spare rooms, in memory of its own.
func allOf(c api.Class) api.Class {
	c.Pool, c.Interfaces, c.Fields, c.Methods = whole(c.Pool), whole(c.Interfaces), whole(c.Fields), whole(c.Methods)
	for i, m := range c.Methods {
		m.Proto.Args, m.Code, m.Handlers = whole(m.Proto.Args), whole(m.Code), whole(m.Handlers)
		c.Methods[i] = m
	}
	return c
}

// handed are classes that may be, and such as may not.
func handed() []api.Class {
	l := []api.Class{first(), second(), rich(), {}}
	for _, change := range changes() {
		l = append(l, with(rich(), change))
	}
	return l
}

func TestP83Untouched(t *testing.T) {
	for _, c := range handed() {
		c = allRoomy(c)
		before := allOf(c)
		class.Check(c)
		class.Bytes(c)
		class.Same(c, rich())
		class.Same(rich(), c)
		class.Same(c, c)
		if !reflect.DeepEqual(allOf(c), before) {
			t.Errorf("what was handed in has become %s; it was %s", show(allOf(c)), show(before))
		}
	}
	_, rows := examples()
	for _, b := range rows {
		for size := range len(b) + 1 {
			short := roomy(b[:size], 1, 2, 3)
			before := whole(short)
			class.Parse(short)
			class.Parse(b[:size])
			if !bytes.Equal(whole(short), before) {
				t.Errorf("Parse has changed %x to %x", before, whole(short))
			}
		}
	}
	again, _ := examples()
	for i, b := range rows {
		if got, _ := class.Bytes(again[i]); !bytes.Equal(got, b) {
			t.Errorf("Parse has changed %x to %x", got, b)
		}
	}
}

// What stands in the spare room is no part of a list.
func TestP83SpareRoom(t *testing.T) {
	classes, rows := examples()
	for i, c := range classes {
		if b, e := class.Bytes(allRoomy(c)); !bytes.Equal(b, rows[i]) || e != api.OK || !class.Same(c, allRoomy(c)) {
			t.Errorf("Bytes(%s): %x, %d; want %x", show(c), b, e, rows[i])
		}
		if got, e := class.Parse(roomy(rows[i], 0, 1)); !same(got, c) || e != api.OK {
			t.Errorf("Parse(%x): %s, %d", rows[i], show(got), e)
		}
	}
	wantMayNot(t, with(allRoomy(rich()), func(c *api.Class) { c.Pool[4].A = len(c.Pool) }))
}

func TestP83NewBytes(t *testing.T) {
	classes, rows := examples()
	for i, c := range classes {
		one, _ := class.Bytes(c)
		other, _ := class.Bytes(c)
		spans := slices.Concat(listsOf(c), textsOf(c))
		wantApart(t, []span{listSpan("one", one)}, append(spans, listSpan("other", other)))
		clear(one[:cap(one)])
		if !bytes.Equal(other, rows[i]) {
			t.Errorf("two answers share memory: %x", other)
		}
		wantMay(t, c)
	}
}

func TestP83NewClasses(t *testing.T) {
	classes, rows := examples()
	d := &dice{state: 4}
	for len(rows) < 20 {
		c := some(d)
		if b, e := class.Bytes(c); e == api.OK && len(b) < 5000 {
			classes, rows = append(classes, c), append(rows, b)
		}
	}
	for i, b := range rows {
		one, _ := class.Parse(b)
		other, _ := class.Parse(b)
		in := listSpan("what was handed in", b)
		wantApart(t, slices.Concat(listsOf(one), textsOf(one), listsOf(other), textsOf(other)), []span{in})
		wantApart(t, listsOf(one), slices.Concat(listsOf(other), textsOf(other), textsOf(one)))
		lists := listsOf(one)
		for k := range lists {
			wantApart(t, lists[:k], lists[k:k+1])
		}
		clear(b)
		if !same(one, classes[i]) || !same(other, classes[i]) {
			t.Errorf("what was read has changed with its bytes: %s", show(one))
		}
	}
}

func TestP83NotKept(t *testing.T) {
	classes, rows := examples()
	for i, b := range rows {
		c, _ := class.Parse(b)
		written, _ := class.Bytes(c)
		for _, m := range c.Methods {
			clear(m.Code)
			clear(m.Proto.Args)
			clear(m.Handlers)
		}
		clear(c.Pool)
		clear(c.Interfaces)
		clear(c.Fields)
		clear(c.Methods)
		if !bytes.Equal(written, b) {
			t.Errorf("what was written has changed with the class: %x; it was %x", written, b)
		}
		if again, e := class.Parse(b); e != api.OK || !same(again, classes[i]) {
			t.Errorf("Parse(%x) hangs on an earlier one: %s, %d", b, show(again), e)
		}
	}
}

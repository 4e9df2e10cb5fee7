package class_test

import (
	"bytes"
	"fmt"
	"reflect"
	"slices"
	"strings"
	"testing"

	"warpbeam/api"
	"warpbeam/class"
	"warpbeam/code"
	"warpbeam/descr"
	"warpbeam/pool"
)

// show is as much of a thing as can be looked at.
func show(x any) string {
	return fmt.Sprintf("%.300s", fmt.Sprintf("%+v", x))
}

// piece is a part of a class's bytes: a number, by what it is meant for, or a row of bytes.
type piece struct {
	what string // "mark", "count of ..", "length", "number"; "" of a row
	n    int
	row  []byte
}

// short is a number's bytes, by the words of chapter 1.
func short(n int) []byte {
	var b []byte
	for ; n > 127; n /= 128 {
		b = append(b, byte(n%128+128))
	}
	return append(b, byte(n))
}

// long is a number's bytes, and one more that says nothing.
func long(n int) []byte {
	b := short(n)
	b[len(b)-1] += 128
	return append(b, 0)
}

func number(n int) piece           { return piece{what: "number", n: n} }
func mark(n int) piece             { return piece{what: "mark", n: n} }
func count(of string, n int) piece { return piece{what: "count of " + of, n: n} }
func row(s string) []piece         { return []piece{{what: "length", n: len(s)}, {row: []byte(s)}} }
func spelt(p []piece) []byte       { return speltBut(p, -1, nil) }

// markIf is a mark, if that is so.
func markIf(is bool, n int) piece {
	if !is {
		n = 0
	}
	return mark(n)
}

// speltBut are the bytes of all pieces, with other ones in place of one of them.
func speltBut(p []piece, at int, other []byte) []byte {
	var b []byte
	for i, x := range p {
		switch {
		case i == at:
			b = append(b, other...)
		case x.what == "":
			b = append(b, x.row...)
		default:
			b = append(b, short(x.n)...)
		}
	}
	return b
}

// pieces are a class's bytes, by the chapter's words, whether the class may be or not; only its Pool must be.
func pieces(c api.Class) []piece {
	consts, e := pool.Bytes(c.Pool)
	if e != api.OK {
		panic("a Pool that may not be")
	}
	p := []piece{{row: []byte{0x57, 0x42, 0x01}}, {row: consts}, markIf(c.Interface, 1)}
	p = append(append(p, row(c.Name)...), row(c.Super)...)
	p = append(p, count("interfaces", len(c.Interfaces)))
	for _, s := range c.Interfaces {
		p = append(p, row(s)...)
	}
	p = append(p, count("fields", len(c.Fields)))
	for _, f := range c.Fields {
		typ, _ := descr.WriteType(f.Type)
		p = append(append(append(p, markIf(f.Static, 1)), row(f.Name)...), row(typ)...)
	}
	p = append(p, count("methods", len(c.Methods)))
	for _, m := range c.Methods {
		proto, _ := descr.WriteProto(m.Proto)
		kind := markIf(m.Static, 1)
		if m.Abstract {
			kind = mark(2)
		}
		p = append(append(append(p, kind), row(m.Name)...), row(proto)...)
		if m.Abstract {
			continue
		}
		p = append(append(p, number(m.Stack), number(m.Locals)), row(string(m.Code))...)
		p = append(p, count("handlers", len(m.Handlers)))
		for _, h := range m.Handlers {
			p = append(p, number(h.From), number(h.To), number(h.At), number(h.Class))
		}
	}
	return p
}

// loose reads bytes as far as they can be meant for a class, whether they are written as they must be or not.
type loose struct {
	b   []byte
	bad bool
}

func (l *loose) take(n int) []byte {
	if l.bad || n < 0 || n > len(l.b) {
		l.bad = true
		return nil
	}
	b := l.b[:n]
	l.b = l.b[n:]
	return b
}

func (l *loose) num() int {
	n := 0
	for shift := 0; shift < 56; shift += 7 {
		b := l.take(1)
		if l.bad {
			return 0
		}
		n += int(b[0]%128) << shift
		if b[0] < 128 {
			return n
		}
	}
	l.bad = true
	return 0
}

func (l *loose) str() string { return string(l.take(l.num())) }

func (l *loose) each(one func()) {
	for n := l.num(); n > 0 && !l.bad; n-- {
		one()
	}
}

func (l *loose) class() api.Class {
	var c api.Class
	l.take(3)
	consts, rest, e := pool.Parse(l.b)
	l.bad = l.bad || e != api.OK
	c.Pool, l.b = consts, rest
	c.Interface = l.num() == 1
	c.Name = l.str()
	c.Super = l.str()
	l.each(func() { c.Interfaces = append(c.Interfaces, l.str()) })
	l.each(func() {
		f := api.Field{Static: l.num() == 1}
		f.Name = l.str()
		f.Type, _ = descr.Type(l.str())
		c.Fields = append(c.Fields, f)
	})
	l.each(func() {
		kind := l.num()
		m := api.Method{Static: kind == 1, Abstract: kind == 2}
		m.Name = l.str()
		m.Proto, e = descr.Proto(l.str())
		l.bad = l.bad || e != api.OK
		if !m.Abstract {
			m.Stack = l.num()
			m.Locals = l.num()
			m.Code = bytes.Clone(l.take(l.num()))
			l.each(func() {
				var h api.Handler
				for _, n := range []*int{&h.From, &h.To, &h.At, &h.Class} {
					*n = l.num()
				}
				m.Handlers = append(m.Handlers, h)
			})
		}
		c.Methods = append(c.Methods, m)
	})
	return c
}

// name tells whether a text is a name, by DOC.md's words.
func name(s string) bool {
	const letters = "ABCDEFGHIJKLMNOPQRSTUVWXYZabcdefghijklmnopqrstuvwxyz_$"
	for i := range len(s) {
		if !strings.Contains(letters, s[i:i+1]) && (i == 0 || s[i] < '0' || s[i] > '9') {
			return false
		}
	}
	return len(s) >= 1 && len(s) <= 64
}

// may tells whether a class may be, by the chapter's words.
func may(c api.Class) bool {
	good := pool.Check(c.Pool) == api.OK && name(c.Name) && (name(c.Super) || c.Super == "")
	good = good && len(c.Interfaces) <= 64 && len(c.Fields) <= 256 && len(c.Methods) <= 256
	for _, s := range c.Interfaces {
		good = good && name(s)
	}
	for _, f := range c.Fields {
		good = good && name(f.Name) && descr.CheckType(f.Type) == api.OK
	}
	for _, m := range c.Methods {
		good = good && name(m.Name) && descr.CheckProto(m.Proto) == api.OK
		if m.Abstract {
			good = good && !m.Static && m.Stack == 0 && m.Locals == 0 && len(m.Code)+len(m.Handlers) == 0
			continue
		}
		_, _, e := code.Check(m, c.Pool)
		good = good && e == api.OK
	}
	return good
}

// same tells whether two classes are the same: lists without elements may be nil or not.
func same(a, b api.Class) bool {
	return reflect.DeepEqual(alike(a), alike(b))
}

// none is a list: nil, if it is without elements.
func none[E any](l []E) []E {
	if len(l) == 0 {
		return nil
	}
	return l
}

// alike is a class whose lists without elements are nil.
func alike(c api.Class) api.Class {
	c.Pool, c.Interfaces, c.Fields, c.Methods = none(c.Pool), none(c.Interfaces), none(c.Fields), none(slices.Clone(c.Methods))
	for i, m := range c.Methods {
		m.Proto.Args, m.Code, m.Handlers = none(m.Proto.Args), none(m.Code), none(m.Handlers)
		c.Methods[i] = m
	}
	return c
}

// wantMay tells that a class may be: it is written by the chapter's words, and read as it was.
func wantMay(t *testing.T, c api.Class) {
	t.Helper()
	if !may(c) {
		t.Fatalf("the model says that %s may not be", show(c))
	}
	want := spelt(pieces(c))
	if e := class.Check(c); e != api.OK {
		t.Errorf("Check(%s): %d", show(c), e)
	}
	if len(want) > 65535 {
		if b, e := class.Bytes(c); len(b) != 0 || e != api.ErrLimit {
			t.Errorf("Bytes(%s): %d bytes, %d; want none, %d", show(c), len(b), e, api.ErrLimit)
		}
		return
	}
	if b, e := class.Bytes(c); !bytes.Equal(b, want) || e != api.OK {
		t.Errorf("Bytes(%s): %.200x, %d; want %.200x", show(c), b, e, want)
	}
	if got, e := class.Parse(want); !same(got, c) || e != api.OK {
		t.Errorf("Parse(%.200x): %s, %d; want %s", want, show(got), e, show(c))
	}
}

// wantMayNot tells that a class may not be, nor what would be its bytes, as far as there would be some.
func wantMayNot(t *testing.T, c api.Class) {
	t.Helper()
	if may(c) {
		t.Fatalf("the model says that %s may be", show(c))
	}
	if e := class.Check(c); e != api.ErrClass {
		t.Errorf("Check(%s): %d; want %d", show(c), e, api.ErrClass)
	}
	if b, e := class.Bytes(c); len(b) != 0 || e != api.ErrClass {
		t.Errorf("Bytes(%s): %.200x, %d; want none, %d", show(c), b, e, api.ErrClass)
	}
	if pool.Check(c.Pool) == api.OK {
		wantParsed(t, spelt(pieces(c)))
	}
}

// wantParsed holds Parse against what the chapter's words make of bytes, and tells whether they are a class's.
func wantParsed(t *testing.T, b []byte) bool {
	t.Helper()
	l := loose{b: b}
	c := l.class()
	good := len(b) <= 65535 && !l.bad && len(l.b) == 0 && may(c) && bytes.Equal(spelt(pieces(c)), b)
	want, wantE := c, api.OK
	if !good {
		want, wantE = api.Class{}, api.ErrClass
		if len(b) > 65535 {
			wantE = api.ErrLimit
		}
	}
	if got, e := class.Parse(b); !same(got, want) || e != wantE {
		t.Errorf("Parse(%.200x): %s, %d; want %s, %d", b, show(got), e, show(want), wantE)
	}
	return good
}

// wantNone tells that bytes are no class's.
func wantNone(t *testing.T, b []byte) {
	t.Helper()
	if wantParsed(t, b) {
		t.Errorf("%.200x is a class's bytes; it should be none's", b)
	}
}

// dice are numbers that look like none, always the same.
type dice struct{ state uint64 }

func (d *dice) roll(n int) int {
	d.state = d.state*6364136223846793005 + 1442695040888963407
	return int(d.state>>33) % n
}

// pick is one of some.
func pick[E any](d *dice, l ...E) E { return l[d.roll(len(l))] }

package find_test

import (
	"slices"
	"testing"

	"warpbeam/api"
	"warpbeam/find"
	"warpbeam/layout"
	"warpbeam/link"
)

// each calls a function with worlds of classes, few and many, and the constants of all that these have, and some that they have not.
func each(t *testing.T, do func(s *link.Set, x *layout.Layout, a asked)) {
	t.Helper()
	d := &dice{state: 7}
	all := [][]api.Class{nil, example(), rich()}
	for range 40 {
		all = append(all, rolled(d, 1+d.roll(9)))
	}
	for _, l := range all {
		s, x := world(t, l)
		do(s, x, asks(s))
	}
}

// A field that is found has the name and the type that the constant told, and stands with a class above the one that is named.
func TestP116Field(t *testing.T) {
	found := 0
	each(t, func(s *link.Set, x *layout.Layout, a asked) {
		for _, class := range a.classes {
			for _, name := range a.names {
				for text, typ := range a.types {
					var l constants
					n := l.field(class, name, text)
					p, e := find.Field(s, x, l.of(), n)
					if e != api.OK {
						continue
					}
					found++
					named, _ := s.Number(class)
					c, _ := s.Class(p.Class)
					if !s.Below(named, p.Class) || p.Index < 0 || p.Index >= len(c.Fields) || c.Fields[p.Index] != (api.Field{Static: p.Static, Name: name, Type: typ}) || p.Type != typ {
						t.Errorf("Field of %q, %q, %q: %v", class, name, text, p)
					}
				}
			}
		}
	})
	if found < 200 {
		t.Errorf("%d are found", found)
	}
}

// A method that is found has the name and the proto that the constant told, and stands with a class above the one that is named; its number is below layout.Methods.
func TestP116Method(t *testing.T) {
	wantFound(t, func(s *link.Set, x *layout.Layout, class, name string, p api.Proto, m find.Meant) {
		named, _ := s.Number(class)
		owner, index, _ := x.Method(m.Number)
		c, _ := s.Class(owner)
		if index >= len(c.Methods) {
			t.Fatalf("Method of %q, %q, %v: %v", class, name, p, m)
		}
		a := c.Methods[index]
		if m.Class != named || !s.Below(named, owner) || a.Name != name || !sameProto(a.Proto, p) || m.Name != name || !sameProto(m.Proto, p) || m.Static != a.Static || m.Interface != s.IsInterface(named) {
			t.Errorf("Method of %q, %q, %v: %v", class, name, p, m)
		}
	})
}

func TestP117Number(t *testing.T) {
	wantFound(t, func(s *link.Set, x *layout.Layout, class, name string, p api.Proto, m find.Meant) {
		if m.Number < 0 || m.Number >= x.Methods() {
			t.Errorf("Method of %q, %q, %v: %v; there are %d", class, name, p, m, x.Methods())
		}
	})
}

// wantFound calls a function with each method that is found.
func wantFound(t *testing.T, do func(s *link.Set, x *layout.Layout, class, name string, p api.Proto, m find.Meant)) {
	t.Helper()
	found := 0
	each(t, func(s *link.Set, x *layout.Layout, a asked) {
		for _, class := range a.classes {
			for _, name := range a.names {
				for text, p := range a.protos {
					var l constants
					n := l.method(class, name, text)
					if m, e := find.Method(s, x, l.of(), n); e == api.OK {
						found++
						do(s, x, class, name, p, m)
					}
				}
			}
		}
	})
	if found < 500 {
		t.Errorf("%d are found", found)
	}
}

// The same constant means the same whichever class has it, at whichever place, among whatever others.
func TestP117WhicheverClass(t *testing.T) {
	each(t, func(s *link.Set, x *layout.Layout, a asked) {
		for _, class := range a.classes {
			for text := range a.protos {
				var l, behind constants
				n := l.method(class, "m", text)
				want, wantE := find.Method(s, x, l.of(), n)
				for _, other := range slices.Concat(a.classes, a.names) {
					behind.field(other, other, text)
				}
				n = behind.method(class, "m", text)
				for i := range s.Len() + 1 {
					c, _ := s.Class(i)
					c.Pool = behind.l
					wantMethod(t, s, x, c, n, want, wantE)
				}
			}
		}
	})
}

// So it is with fields and classes.
func TestP117FieldsToo(t *testing.T) {
	s, x := world(t, rich())
	l := constants{l: slices.Clone(kinds())}
	n := l.field("C", "r", "LA;")
	k := l.class("C")
	for i := range s.Len() + 1 {
		c, _ := s.Class(i)
		c.Pool = l.l
		wantField(t, s, x, c, n, layout.Place{Class: 8, Index: 2, Slot: 1, Type: ref("A")}, api.OK)
		wantClass(t, s, c, k, 10, api.OK)
	}
}

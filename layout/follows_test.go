package layout_test

import (
	"slices"
	"testing"

	"warpbeam/api"
	"warpbeam/layout"
	"warpbeam/link"
)

// layouts are layouts of classes that fit, few and many.
func layouts(t *testing.T) []*layout.Layout {
	var all []*layout.Layout
	for _, l := range fitting() {
		all = append(all, laid(t, l))
	}
	d := &dice{state: 12}
	for len(all) < 150 {
		all = append(all, laid(t, someFit(d, 1+d.roll(14))))
	}
	return all
}

// methodOf is a method by its number.
func methodOf(t *testing.T, x *layout.Layout, n int) (int, api.Method) {
	t.Helper()
	i, index, is := x.Method(n)
	c, _ := x.Set().Class(i)
	if !is || index >= len(c.Methods) {
		t.Fatalf("Method(%d): %d, %d, %v", n, i, index, is)
	}
	return i, c.Methods[index]
}

func TestP105FromAbove(t *testing.T) {
	for _, x := range layouts(t) {
		s := x.Set()
		for i := range s.Len() {
			slots := x.Slots(i)
			if above := x.Slots(s.Super(i)); len(above) > len(slots) || !slices.Equal(slots[:len(above)], above) {
				t.Errorf("Slots(%d): %v; of the class above %v", i, slots, above)
			}
		}
	}
}

func TestP105EachAnother(t *testing.T) {
	for _, x := range layouts(t) {
		s := x.Set()
		statics := make([]int, len(x.Statics()))
		for i := range s.Len() {
			slots := x.Slots(i)
			had := make([]int, len(slots))
			for up := i; up >= 0; up = s.Super(up) {
				c, _ := s.Class(up)
				for index, f := range c.Fields {
					p, is := x.Field(up, f.Name)
					if !is || p.Class != up || p.Index != index || p.Type != f.Type || p.Static != f.Static {
						t.Fatalf("Field(%d, %q): %v, %v", up, f.Name, p, is)
					}
					if !p.Static && slots[p.Slot] == f.Type {
						had[p.Slot]++
					}
					if p.Static && up == i && x.Statics()[p.Slot] == f.Type {
						statics[p.Slot]++
					}
				}
			}
			if slices.ContainsFunc(had, func(n int) bool { return n != 1 }) {
				t.Errorf("%d: %v", i, had)
			}
		}
		if slices.ContainsFunc(statics, func(n int) bool { return n != 1 }) {
			t.Errorf("statics: %v", statics)
		}
	}
}

// What is meant by a class, and not static, is had by the objects of all that stand below it.
func TestP106Had(t *testing.T) {
	meant := 0
	for _, x := range layouts(t) {
		s := x.Set()
		for n := range x.Methods() {
			_, m := methodOf(t, x, n)
			for i := range s.Len() {
				k, is := x.Find(i, m.Name, m.Proto)
				if !is {
					continue
				}
				if _, found := methodOf(t, x, k); found.Static {
					continue
				}
				for o := range s.Len() {
					if s.IsInterface(o) || !s.Below(o, i) {
						continue
					}
					meant++
					wantHad(t, x, o, m)
				}
			}
		}
	}
	if meant < 1000 {
		t.Errorf("%d meant", meant)
	}
}

// wantHad tells that the objects of a class have a method that is alike, of the nearest class above that has one.
func wantHad(t *testing.T, x *layout.Layout, o int, m api.Method) {
	t.Helper()
	k, is := x.Call(o, m.Name, m.Proto)
	if !is {
		t.Errorf("Call(%d, %q, %v): none", o, m.Name, m.Proto)
		return
	}
	i, had := methodOf(t, x, k)
	if !alike(had, m) || had.Static || had.Abstract || !x.Set().Below(o, i) || x.Set().IsInterface(i) {
		t.Errorf("Call(%d, %q, %v): %d of class %d, %v", o, m.Name, m.Proto, k, i, had)
	}
}

func TestP107Own(t *testing.T) {
	own := 0
	for _, x := range layouts(t) {
		for n := range x.Methods() {
			i, m := methodOf(t, x, n)
			if k, is := x.Find(i, m.Name, m.Proto); k != n || !is {
				t.Errorf("Find(%d, %q, %v): %d, %v; want %d", i, m.Name, m.Proto, k, is, n)
			}
			if m.Static || x.Set().IsInterface(i) {
				continue
			}
			own++
			if k, is := x.Call(i, m.Name, m.Proto); k != n || !is {
				t.Errorf("Call(%d, %q, %v): %d, %v; want %d", i, m.Name, m.Proto, k, is, n)
			}
		}
	}
	if own < 200 {
		t.Errorf("%d own", own)
	}
}

// An object of an interface's there is not: it has nothing, and nothing is called of it.
func TestP103Interfaces(t *testing.T) {
	for _, x := range layouts(t) {
		for n := range x.Methods() {
			_, m := methodOf(t, x, n)
			for i := range x.Set().Len() {
				if k, is := x.Call(i, m.Name, m.Proto); (x.Set().IsInterface(i) || i < link.BuiltIn) && (k != 0 || is) {
					t.Errorf("Call(%d, %q, %v): %d, %v", i, m.Name, m.Proto, k, is)
				}
			}
		}
	}
}

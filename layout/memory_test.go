package layout_test

import (
	"reflect"
	"slices"
	"testing"
	"unsafe"

	"warpbeam/api"
	"warpbeam/layout"
	"warpbeam/link"
)

// told is all that a set tells of its classes.
func told(s *link.Set) []any {
	var l []any
	for i := range s.Len() {
		c, _ := s.Class(i)
		l = append(l, c, s.Name(i), s.Above(i), s.Interfaces(i), s.Super(i))
	}
	return l
}

// faulty are classes that do not fit, one list for each of what is asked.
func faulty() [][]api.Class {
	l := [][]api.Class{rich(), rich(), rich(), rich(), rich()}
	l[0][1].Fields[1].Name = "c"
	l[1][2].Fields[0].Type.Name = "none"
	l[2][7].Methods[0].Abstract = false
	l[3][0].Methods[0].Static = true
	l[4][3].Methods = l[4][3].Methods[:1]
	return l
}

func TestP104Untouched(t *testing.T) {
	for _, l := range append(fitting(), faulty()...) {
		s := linked(t, l)
		before := told(s)
		x, _, _ := layout.Of(s)
		for i := range s.Len() {
			clear(x.Slots(i))
		}
		clear(x.Statics())
		if !reflect.DeepEqual(told(s), before) {
			t.Errorf("%s: the set has changed", brief(l))
		}
	}
}

// roomy is a list with spare room, in which something stands.
func roomy(types []api.Type) []api.Type {
	return append(types, ref("spare"), anInt, aLong, ref("spare"))[:len(types)]
}

func TestP104Protos(t *testing.T) {
	for _, l := range fitting() {
		x := laid(t, l)
		m := model{x.Set()}
		_, protos := asked(m)
		for _, p := range protos {
			p.Args = roomy(slices.Clone(p.Args))
			before := slices.Clone(p.Args[:cap(p.Args)])
			for i := range m.set.Len() {
				wantNamed(t, x, m, i, "m", []api.Proto{p})
			}
			if !slices.Equal(p.Args[:cap(p.Args)], before) {
				t.Errorf("%v has become %v", before, p.Args[:cap(p.Args)])
			}
		}
	}
}

// What is done to the lists that are answered changes nothing that is told later.
func TestP104NewLists(t *testing.T) {
	for _, l := range fitting() {
		x := laid(t, l)
		for range 2 {
			for i := range x.Set().Len() {
				wipe(x.Slots(i))
			}
			wipe(x.Statics())
			wantModel(t, x)
		}
	}
}

// wipe writes over a list, and over its spare room.
func wipe(l []api.Type) {
	for i := range l[:cap(l)] {
		l[:cap(l)][i] = api.Type{Kind: 99, Name: "wiped"}
	}
}

// wantApart tells that no two texts share memory.
func wantApart(t *testing.T, texts []string) {
	t.Helper()
	had := map[uintptr]string{}
	for _, s := range texts {
		if s == "" {
			continue
		}
		at := uintptr(unsafe.Pointer(unsafe.StringData(s)))
		if other, is := had[at]; is {
			t.Errorf("%q and %q share memory", s, other)
		}
		had[at] = s
	}
}

func namesOf(types []api.Type) []string {
	var l []string
	for _, typ := range types {
		l = append(l, typ.Name)
	}
	return l
}

func TestP104NewTexts(t *testing.T) {
	for _, l := range fitting() {
		x := laid(t, l)
		m := model{x.Set()}
		names, _ := asked(m)
		var texts []string
		for range 2 {
			texts = append(texts, namesOf(x.Statics())...)
			for i := range m.set.Len() {
				texts = append(texts, namesOf(x.Slots(i))...)
				for _, name := range names {
					p, _ := x.Field(i, name)
					texts = append(texts, p.Type.Name)
				}
			}
		}
		for _, c := range l {
			texts = append(texts, c.Name)
			for _, f := range c.Fields {
				texts = append(texts, string(append([]byte(nil), f.Type.Name...)))
			}
		}
		wantApart(t, texts)
	}
}

// The name beside an error is new memory, too.
func TestP104NewName(t *testing.T) {
	for _, l := range faulty() {
		s := linked(t, l)
		_, name, e := layout.Of(s)
		_, other, _ := layout.Of(s)
		n, is := s.Number(name)
		if e == api.OK || !is {
			t.Fatalf("Of: %q, %d", name, e)
		}
		texts := []string{name, other, s.Name(n)}
		for _, c := range l {
			texts = append(texts, c.Name)
		}
		wantApart(t, texts)
	}
}

// Layouts do not hang on each other, nor on what was asked before; one that is copied is as good.
func TestP104Apart(t *testing.T) {
	var all []*layout.Layout
	for _, l := range fitting() {
		all = append(all, laid(t, l))
		layout.Of(linked(t, faulty()[0]))
		layout.Of(all[0].Set())
	}
	for range 2 {
		for _, x := range all {
			wantModel(t, x)
		}
	}
	other := *all[2]
	wantModel(t, &other)
}

// What is done to the classes that the set was made of changes nothing.
func TestP104NotKept(t *testing.T) {
	l := rich()
	s := linked(t, l)
	x, _, _ := layout.Of(s)
	for _, c := range l {
		clear(c.Fields)
		clear(c.Methods)
	}
	clear(l)
	wantModel(t, x)
	if !reflect.DeepEqual(told(x.Set()), told(linked(t, rich()))) {
		t.Error("the set has changed")
	}
}

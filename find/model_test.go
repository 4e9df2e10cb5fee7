package find_test

import (
	"strings"
	"testing"

	"warpbeam/api"
	"warpbeam/find"
	"warpbeam/layout"
	"warpbeam/link"
)

// model is what the chapters' words make of a set of classes that fit.
type model struct{ set *link.Set }

// class is a class as it was handed in; nothing of the built in ones.
func (m model) class(i int) api.Class {
	c, _ := m.set.Class(i)
	return c
}

// slot is the place of a class's field in its objects, or among all static ones.
func (m model) slot(i, index int) int {
	f := m.class(i).Fields[index]
	n := 0
	for k := range m.set.Len() {
		own := k == i
		// Static ones are counted through all classes, the others through those above by Super alone.
		ahead := f.Static && k < i || !f.Static && !own && m.up(k, i)
		for at, g := range m.class(k).Fields {
			if g.Static == f.Static && (ahead || own && at < index) {
				n++
			}
		}
	}
	return n
}

// up tells whether a class is another one, or above it by Super.
func (m model) up(above, i int) bool {
	for ; i >= 0; i = m.set.Super(i) {
		if i == above {
			return true
		}
	}
	return false
}

// number is the number of a class's method.
func (m model) number(i, index int) int {
	n := index
	for k := range i {
		n += len(m.class(k).Methods)
	}
	return n
}

// field is what Field is to answer of a class's name, a name and a type that may be.
func (m model) field(class, name string, typ api.Type) (layout.Place, api.Errno) {
	i, is := m.set.Number(class)
	if !is {
		return layout.Place{}, api.ErrFind
	}
	for _, up := range m.set.Above(i) {
		for index, f := range m.class(up).Fields {
			if f.Name == name && f.Type == typ {
				return layout.Place{Class: up, Index: index, Static: f.Static, Slot: m.slot(up, index), Type: typ}, api.OK
			}
			if f.Name == name {
				return layout.Place{}, api.ErrFind
			}
		}
	}
	return layout.Place{}, api.ErrFind
}

// method is what Method is to answer of a class's name, a name and a proto that may be.
func (m model) method(class, name string, p api.Proto) (find.Meant, api.Errno) {
	i, is := m.set.Number(class)
	if !is {
		return find.Meant{}, api.ErrFind
	}
	for _, up := range m.set.Above(i) {
		for index, a := range m.class(up).Methods {
			if a.Name == name && sameProto(a.Proto, p) {
				return find.Meant{Number: m.number(up, index), Class: i, Static: a.Static, Interface: m.class(i).Interface, Name: name, Proto: p}, api.OK
			}
		}
	}
	return find.Meant{}, api.ErrFind
}

// entry is what Entry is to answer.
func (m model) entry(class, name string) (int, api.Errno) {
	i, is := m.set.Number(class)
	if is {
		for index, a := range m.class(i).Methods {
			if a.Static && a.Name == name && len(a.Proto.Args) == 0 {
				return m.number(i, index), api.OK
			}
		}
	}
	return 0, api.ErrFind
}

// written is how a type is written; void, too.
func written(t api.Type) string {
	return []string{"V", "I", "J", "L" + t.Name + ";", "[I", "[J", "[L" + t.Name + ";"}[t.Kind]
}

func writtenProto(p api.Proto) string {
	var args strings.Builder
	for _, t := range p.Args {
		args.WriteString(written(t))
	}
	return "(" + args.String() + ")" + written(p.Ret)
}

// asked are the names of classes, of what they have, and the types and protos of that, and of each some that there are not.
type asked struct {
	classes, names []string
	types          map[string]api.Type
	protos         map[string]api.Proto
}

func asks(s *link.Set) asked {
	a := asked{classes: []string{"none", ""}, names: []string{"none", "", "x", "m"}, types: map[string]api.Type{}, protos: map[string]api.Proto{}}
	for _, t := range []api.Type{anInt, aLong, ints, {Kind: api.KindLongs}, ref("none"), refs("none"), ref("Object")} {
		a.types[written(t)] = t
		p := proto(t, t)
		a.protos[writtenProto(p)] = p
	}
	had := map[string]int{}
	for i := range s.Len() {
		c, _ := s.Class(i)
		a.classes = append(a.classes, s.Name(i))
		for _, f := range c.Fields {
			had[f.Name]++
			a.types[written(f.Type)] = f.Type
		}
		for _, m := range c.Methods {
			had[m.Name]++
			a.protos[writtenProto(m.Proto)] = m.Proto
		}
	}
	for name := range had {
		a.names = append(a.names, name)
	}
	return a
}

// wantModel holds all that is found in a set of classes against the model, and answers how much there was.
func wantModel(t *testing.T, s *link.Set, x *layout.Layout) int {
	t.Helper()
	m, a, found := model{s}, asks(s), 0
	for _, class := range a.classes {
		// Each class has the constants of its name alone, so that there are not too many.
		var l constants
		for _, name := range a.names {
			for text, typ := range a.types {
				n := l.field(class, name, text)
				want, wantE := m.field(class, name, typ)
				wantField(t, s, x, l.of(), n, want, wantE)
				if wantE == api.OK {
					found++
				}
			}
			for text, p := range a.protos {
				n := l.method(class, name, text)
				want, wantE := m.method(class, name, p)
				wantMethod(t, s, x, l.of(), n, want, wantE)
				if wantE == api.OK {
					found++
				}
			}
			want, wantE := m.entry(class, name)
			wantEntry(t, s, x, class, name, want, wantE)
			if wantE == api.OK {
				found++
			}
		}
	}
	return found
}

func TestP112Model(t *testing.T) {
	for _, l := range [][]api.Class{nil, example(), rich()} {
		s, x := world(t, l)
		wantModel(t, s, x)
	}
	d, found := &dice{state: 3}, 0
	for range 60 {
		s, x := world(t, rolled(d, 1+d.roll(9)))
		found += wantModel(t, s, x)
	}
	if found < 1500 {
		t.Errorf("%d are found", found)
	}
}

package word_test

import (
	"fmt"
	"slices"
	"testing"

	"warpbeam/api"
	"warpbeam/link"
	"warpbeam/word"
)

// model is what the chapters' words make of classes. It knows them by their names.
type model map[string]api.Class

// newModel is a model of classes that fit.
func newModel(classes []api.Class) model {
	m := model{"Object": {Name: "Object"}, "Throwable": {Name: "Throwable", Super: "Object"}}
	for _, name := range []string{"Arith", "Null", "Bounds", "Cast", "Size", "Store"} {
		m[name] = api.Class{Name: name, Super: "Throwable"}
	}
	for _, c := range classes {
		m[c.Name] = c
	}
	return m
}

// line are a class, the class above it, and so on up to Object.
func (m model) line(name string) []string {
	if name == "Object" {
		return []string{name}
	}
	return append([]string{name}, m.line(m[name].Super)...)
}

// below tells whether a class stands below another one.
func (m model) below(a, b string) bool {
	if a == b || b == "Object" {
		return true
	}
	if a == "Object" {
		return false
	}
	return m.below(m[a].Super, b) || slices.ContainsFunc(m[a].Interfaces, func(i string) bool { return m.below(i, b) })
}

// common is the nearest class above both.
func (m model) common(a, b string) string {
	for _, name := range m.line(a) {
		if slices.Contains(m.line(b), name) {
			return name
		}
	}
	panic("Object is above both")
}

// mayRef tells whether a type is a reference that may be.
func (m model) mayRef(t api.Type) bool {
	_, is := m[t.Name]
	switch t.Kind {
	case 3, 6:
		return is
	case 4, 5:
		return t.Name == ""
	}
	return false
}

// may tells whether a word may be.
func (m model) may(w api.Word) bool {
	switch w.Kind {
	case 0, 1, 2, 3, 4:
		return w.Type.Kind == 0 && w.Type.Name == ""
	case 5:
		return m.mayRef(w.Type)
	}
	return false
}

// merge is to what words come together.
func (m model) merge(a, b api.Word) api.Word {
	if !m.may(a) || !m.may(b) {
		return top
	}
	if a == b {
		return a
	}
	for _, k := range [][2]api.Word{{a, b}, {b, a}} {
		if k[0] == null && k[1].Kind == api.WordRef {
			return k[1]
		}
	}
	if a.Kind != api.WordRef || b.Kind != api.WordRef {
		return top
	}
	switch [2]int{a.Type.Kind, b.Type.Kind} {
	case [2]int{3, 3}:
		return ref(m.common(a.Type.Name, b.Type.Name))
	case [2]int{6, 6}:
		return refs(m.common(a.Type.Name, b.Type.Name))
	}
	return object
}

// fits tells whether a word fits a type.
func (m model) fits(w api.Word, t api.Type) bool {
	if !m.may(w) {
		return false
	}
	switch w.Kind {
	case api.WordInt:
		return t.Kind == api.KindInt
	case api.WordLong:
		return t.Kind == api.KindLong
	case api.WordNull:
		return m.mayRef(t)
	case api.WordRef:
		return m.mayRef(t) && m.stands(w.Type, t)
	}
	return false
}

// stands tells whether a type that may be, and is a reference, stands below another one.
func (m model) stands(a, b api.Type) bool {
	if a == b || b == object.Type {
		return true
	}
	return a.Kind == b.Kind && (a.Kind == 3 || a.Kind == 6) && m.below(a.Name, b.Name)
}

// wantModel holds what is told of all words and types against a model.
func wantModel(t *testing.T, s *link.Set, m model) {
	t.Helper()
	words := append(mayWords(names(s)), noWords()...)
	all := append(types(names(s)), noTypes()...)
	for _, a := range words {
		for _, b := range words {
			if got, want := word.Merge(s, a, b), m.merge(a, b); got != want {
				t.Errorf("Merge(%v, %v): %v; want %v", a, b, got, want)
			}
		}
		for _, typ := range all {
			wantFits(t, s, a, typ, m.fits(a, typ))
		}
		wantMay(t, s, locals(a), m.may(a) && a != long && a != more)
		wantMay(t, s, stack(a), m.may(a) && a != long && a != more && a != top)
	}
}

// dice are numbers that look like none, always the same.
type dice struct{ state uint64 }

func (d *dice) roll(n int) int {
	d.state = d.state*6364136223846793005 + 1442695040888963407
	return int(d.state>>33) % n
}

// pick is one of some.
func pick[E any](d *dice, l []E) E { return l[d.roll(len(l))] }

// rolled are classes that fit: each is above none that came ahead of it.
func rolled(d *dice, size int) []api.Class {
	supers, faces := []string{"Object", "Throwable", "Arith"}, []string{}
	var classes []api.Class
	for i := range size {
		c := class(fmt.Sprintf("%s%d", pick(d, []string{"a", "Z", "_", "$"}), i), pick(d, supers[max(0, len(supers)-3):]))
		if d.roll(4) == 0 {
			c = face(c.Name)
		}
		for _, name := range faces {
			if d.roll(3) == 0 {
				c.Interfaces = append(c.Interfaces, name)
			}
		}
		if c.Interface {
			faces = append(faces, c.Name)
		} else {
			supers = append(supers, c.Name)
		}
		classes = append(classes, c)
	}
	return classes
}

// worlds are classes that fit, few and many.
func worlds() [][]api.Class {
	all := [][]api.Class{nil, example(), rich()}
	d := &dice{state: 5}
	for range 20 {
		all = append(all, rolled(d, 1+d.roll(12)))
	}
	return all
}

// rolledFrame is a frame that may be, of so many words, some of the classes' names.
func rolledFrame(d *dice, s *link.Set, locals, stack int) api.Frame {
	return api.Frame{Locals: rolledList(d, s, locals, 0), Stack: rolledList(d, s, stack, 1)}
}

// rolledList is a list that may be, of words from that one on of those that may be.
func rolledList(d *dice, s *link.Set, size, from int) []api.Word {
	words := slices.DeleteFunc(mayWords(names(s))[from:], func(w api.Word) bool { return w == long || w == more })
	var made []api.Word
	for len(made) < size {
		if len(made)+2 <= size && d.roll(4) == 0 {
			made = append(made, long, more)
			continue
		}
		made = append(made, pick(d, words[:pick(d, []int{5, len(words)})]))
	}
	return made
}

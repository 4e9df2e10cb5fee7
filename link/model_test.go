package link_test

import (
	"fmt"
	"slices"
	"strings"
	"testing"

	"warpbeam/api"
	"warpbeam/link"
)

// builtIn are the names of the classes that are built in, by their numbers.
func builtIn() []string {
	return []string{"Object", "Throwable", "Arith", "Null", "Bounds", "Cast", "Size", "Store"}
}

// model is what the chapter's words make of classes. It knows them by their names.
type model struct {
	names   []string // by their numbers
	classes map[string]api.Class
}

// newModel is a model of classes, or the error that the chapter's words make of them.
func newModel(l []api.Class) (m model, name string, e api.Errno) {
	if len(l) > 64 {
		return model{}, "", api.ErrLimit
	}
	rising := slices.Clone(l)
	slices.SortStableFunc(rising, func(a, b api.Class) int { return strings.Compare(a.Name, b.Name) })
	m = model{names: builtIn(), classes: map[string]api.Class{}}
	for _, name := range m.names {
		m.classes[name] = api.Class{Name: name, Super: "Throwable"}
	}
	m.classes["Object"] = api.Class{Name: "Object"}
	m.classes["Throwable"] = api.Class{Name: "Throwable", Super: "Object"}
	for _, c := range rising {
		if m.is(c.Name) {
			return model{}, c.Name, api.ErrTwice
		}
		m.names = append(m.names, c.Name)
		m.classes[c.Name] = c
	}
	for _, check := range []func(c api.Class) (string, api.Errno){m.names1, m.super1, m.interfaces1, m.cycle1} {
		for _, c := range rising {
			if name, e := check(c); e != api.OK {
				return model{}, name, e
			}
		}
	}
	return m, "", api.OK
}

// names1 and those behind it are the checks on a class, in their order.
func (m model) names1(c api.Class) (string, api.Errno) {
	for _, name := range append([]string{c.Super}, c.Interfaces...) {
		if !m.is(name) {
			return name, api.ErrLink
		}
	}
	return "", api.OK
}

func (m model) super1(c api.Class) (string, api.Errno) {
	if m.classes[c.Super].Interface || c.Interface && c.Super != "Object" {
		return c.Name, api.ErrLink
	}
	return "", api.OK
}

func (m model) interfaces1(c api.Class) (string, api.Errno) {
	named := map[string]int{}
	for _, name := range c.Interfaces {
		named[name]++
		if !m.classes[name].Interface || named[name] > 1 {
			return c.Name, api.ErrLink
		}
	}
	return "", api.OK
}

func (m model) cycle1(c api.Class) (string, api.Errno) {
	above := map[string]int{}
	for _, name := range m.oneUp(c.Name) {
		above[name] = 1
	}
	for more := true; more; {
		more = false
		for _, name := range m.names {
			for _, up := range m.oneUp(name) {
				if above[name] == 1 && above[up] == 0 {
					above[up], more = 1, true
				}
			}
		}
	}
	if above[c.Name] == 1 {
		return c.Name, api.ErrCycle
	}
	return "", api.OK
}

// oneUp are the names that a class names above it.
func (m model) oneUp(name string) []string {
	c := m.classes[name]
	if c.Super == "" {
		return c.Interfaces
	}
	return append([]string{c.Super}, c.Interfaces...)
}

// is tells whether there is a class of that name.
func (m model) is(name string) bool {
	return slices.Contains(m.names, name)
}

// number is the number of a name; -1, if there is none.
func (m model) number(name string) int {
	return slices.Index(m.names, name)
}

// numbers are those of names.
func (m model) numbers(names []string) []int {
	var l []int
	for _, name := range names {
		l = append(l, m.number(name))
	}
	return l
}

// line are a class, the class above it, and so on up to Object.
func (m model) line(name string) []string {
	l := []string{name}
	for name != "Object" {
		name = m.classes[name].Super
		l = append(l, name)
	}
	return l
}

// across are the interfaces of a class, in order, each followed by all interfaces that it has, and so on; as often as they come.
func (m model) across(name string) []string {
	var l []string
	for _, i := range m.classes[name].Interfaces {
		l = append(append(l, i), m.across(i)...)
	}
	return l
}

// above are all above a class: each one once, where it comes first.
func (m model) above(name string) []string {
	all := m.line(name)
	for _, up := range m.line(name) {
		all = append(all, m.across(up)...)
	}
	var l []string
	for _, up := range all {
		if !slices.Contains(l, up) {
			l = append(l, up)
		}
	}
	return l
}

func (m model) below(a, b string) bool {
	return b == "Object" || slices.Contains(m.above(a), b)
}

// common is the nearest class above both.
func (m model) common(a, b string) string {
	for _, name := range m.line(a) {
		if slices.Contains(m.line(b), name) {
			return name
		}
	}
	panic("Object is above both")
}

func (m model) mayType(t api.Type) bool {
	if slices.Contains([]int{api.KindRef, api.KindRefs}, t.Kind) {
		return m.is(t.Name)
	}
	return slices.Contains([]int{api.KindInt, api.KindLong, api.KindInts, api.KindLongs}, t.Kind) && t.Name == ""
}

func (m model) belowType(a, b api.Type) bool {
	if !m.mayType(a) || !m.mayType(b) || a.Kind < api.KindRef || b.Kind < api.KindRef {
		return false
	}
	switch {
	case a.Kind == b.Kind && a.Name == b.Name, b.Kind == api.KindRef && b.Name == "Object":
		return true
	case a.Kind == api.KindRef && b.Kind == api.KindRef, a.Kind == api.KindRefs && b.Kind == api.KindRefs:
		return m.below(a.Name, b.Name)
	}
	return false
}

// kinds are numbers of kinds of types, and others.
func kinds() []int {
	return []int{-1 << 63, -1, 0, 1, 2, 3, 4, 5, 6, 7, 8, 256 + 3, 1<<32 + 3, 1<<63 - 1}
}

// show is as much of a thing as can be looked at.
func show(x any) string {
	return fmt.Sprintf("%.600s", fmt.Sprintf("%+v", x))
}

// brief are classes as short texts.
func brief(l []api.Class) string {
	var out strings.Builder
	for _, c := range l {
		fmt.Fprintf(&out, "%q(%q %v %q) ", c.Name, c.Super, c.Interface, c.Interfaces)
	}
	return fmt.Sprintf("%.1500s", out.String())
}

// a class, and an interface, of names alone.
func class(name, super string, interfaces ...string) api.Class {
	return api.Class{Name: name, Super: super, Interfaces: interfaces}
}

func face(name string, interfaces ...string) api.Class {
	return api.Class{Name: name, Super: "Object", Interface: true, Interfaces: interfaces}
}

// linked is the set of classes that fit, and their model.
func linked(t *testing.T, l []api.Class) (*link.Set, model) {
	t.Helper()
	m, name, e := newModel(l)
	if e != api.OK {
		t.Fatalf("the model of %s: %q, %d", brief(l), name, e)
	}
	s, name, e := link.New(l)
	if s == nil || name != "" || e != api.OK {
		t.Fatalf("New(%s): %v, %q, %d", brief(l), s, name, e)
	}
	return s, m
}

// wantFault tells that classes do not fit: which error there is, about which name.
func wantFault(t *testing.T, l []api.Class, wantName string, wantE api.Errno) {
	t.Helper()
	if _, name, e := newModel(l); name != wantName || e != wantE {
		t.Fatalf("the model of %s: %q, %d; want %q, %d", brief(l), name, e, wantName, wantE)
	}
	if s, name, e := link.New(l); s != nil || name != wantName || e != wantE {
		t.Errorf("New(%s): %v, %q, %d; want %q, %d", brief(l), s, name, e, wantName, wantE)
	}
}

// wantModel holds all that a set tells against a model.
func wantModel(t *testing.T, s *link.Set, m model) {
	t.Helper()
	wantEach(t, s, m)
	for a, nameA := range m.names {
		for b, nameB := range m.names {
			if got, want := s.Below(a, b), m.below(nameA, nameB); got != want {
				t.Errorf("Below(%s, %s): %v", nameA, nameB, got)
			}
			if got, want := s.Common(a, b), m.number(m.common(nameA, nameB)); got != want {
				t.Errorf("Common(%s, %s): %d; want %d", nameA, nameB, got, want)
			}
		}
	}
}

// wantEach holds what a set tells of each of its classes against a model.
func wantEach(t *testing.T, s *link.Set, m model) {
	t.Helper()
	if s.Len() != len(m.names) {
		t.Errorf("Len: %d; want %d", s.Len(), len(m.names))
	}
	for i, name := range m.names {
		c := m.classes[name]
		super := -1
		if name != "Object" {
			super = m.number(c.Super)
		}
		if s.Name(i) != name || s.Super(i) != super || s.IsInterface(i) != c.Interface {
			t.Errorf("%d: %q, %d, %v; want %q, %d, %v", i, s.Name(i), s.Super(i), s.IsInterface(i), name, super, c.Interface)
		}
		if n, is := s.Number(name); n != i || !is {
			t.Errorf("Number(%q): %d, %v; want %d", name, n, is, i)
		}
		if l := s.Interfaces(i); !slices.Equal(l, m.numbers(c.Interfaces)) {
			t.Errorf("Interfaces(%s): %v; want %q", name, l, c.Interfaces)
		}
		if l := s.Above(i); !slices.Equal(l, m.numbers(m.above(name))) {
			t.Errorf("Above(%s): %v; want %q", name, l, m.above(name))
		}
		if i < link.BuiltIn {
			c = api.Class{}
		}
		if got, is := s.Class(i); !same(got, c) || is != (i >= link.BuiltIn) {
			t.Errorf("Class(%s): %s, %v", name, show(got), is)
		}
	}
}

// wantTypes holds what a set tells of types against a model: of each kind, with names of classes and others.
func wantTypes(t *testing.T, s *link.Set, m model) {
	t.Helper()
	var types []api.Type
	for _, kind := range kinds() {
		for _, name := range append(slices.Clone(m.names), noNames(m)...) {
			types = append(types, api.Type{Kind: kind, Name: name})
		}
	}
	for _, a := range types {
		if got := s.MayType(a); got != m.mayType(a) {
			t.Errorf("MayType(%v): %v", a, got)
		}
		for _, b := range types {
			if got := s.BelowType(a, b); got != m.belowType(a, b) {
				t.Errorf("BelowType(%v, %v): %v", a, b, got)
			}
		}
	}
}

// noNames are texts that name no class of a model, most of them near to such as do.
func noNames(m model) []string {
	l := []string{"", " ", "\x00", "object", "OBJECT", "Objec", "Objects", " Object", "Object\x00", "LObject;", "I2", "none", "\xFF", strings.Repeat("n", 64), strings.Repeat("n", 1000)}
	if last := m.names[len(m.names)-1]; last != "" {
		l = append(l, last+"x", strings.ToLower(last)+"_", last[:len(last)-1]+"#")
	}
	return slices.DeleteFunc(l, m.is)
}

// wantNone tells that of numbers that are no class's nothing is told.
func wantNone(t *testing.T, s *link.Set, numbers []int, others []int) {
	t.Helper()
	for _, i := range numbers {
		c, is := s.Class(i)
		if s.Name(i) != "" || !same(c, api.Class{}) || is || s.Super(i) != -1 || len(s.Interfaces(i)) != 0 || s.IsInterface(i) || len(s.Above(i)) != 0 {
			t.Errorf("%d: %q, %s, %v, %d, %v, %v, %v", i, s.Name(i), show(c), is, s.Super(i), s.Interfaces(i), s.IsInterface(i), s.Above(i))
		}
		for _, j := range slices.Concat(numbers, others) {
			if s.Below(i, j) || s.Below(j, i) || s.Common(i, j) != -1 || s.Common(j, i) != -1 {
				t.Errorf("%d, %d: %v, %v, %d, %d", i, j, s.Below(i, j), s.Below(j, i), s.Common(i, j), s.Common(j, i))
			}
		}
	}
}

// dice are numbers that look like none, always the same.
type dice struct{ state uint64 }

func (d *dice) roll(n int) int {
	d.state = d.state*6364136223846793005 + 1442695040888963407
	return int(d.state>>33) % n
}

// pick is one of some.
func pick[E any](d *dice, l ...E) E { return l[d.roll(len(l))] }

// shuffled is a list in another order.
func shuffled[E any](d *dice, l []E) []E {
	l = slices.Clone(l)
	for i := range l {
		k := i + d.roll(len(l)-i)
		l[i], l[k] = l[k], l[i]
	}
	return l
}

// someFit are classes that fit: each is above none that came ahead of it.
func someFit(d *dice, size int) []api.Class {
	supers, faces := builtIn(), []string{}
	var l []api.Class
	for i := range size {
		c := api.Class{Name: fmt.Sprintf("%s%d", pick(d, "a", "Z", "_", "$", "Ob", "z9"), i), Super: "Object", Interface: d.roll(5) < 2}
		if !c.Interface {
			c.Super = pick(d, pick(d, supers...), supers[max(0, len(supers)-1-d.roll(3))])
		}
		c.Interfaces = shuffled(d, faces)[:d.roll(min(len(faces), 4)+1)]
		if c.Interface {
			faces = append(faces, c.Name)
		} else {
			supers = append(supers, c.Name)
		}
		l = append(l, c)
	}
	return shuffled(d, l)
}

// some are classes that fit, or not, most of them nearly.
func some(d *dice) []api.Class {
	l := someFit(d, 2+d.roll(7))
	for range d.roll(4) {
		c := &l[d.roll(len(l))]
		other := pick(d, l...).Name
		switch d.roll(9) {
		case 0:
			c.Name = pick(d, other, pick(d, builtIn()...))
		case 1:
			c.Super = pick(d, "", "none", other)
		case 2, 3:
			c.Super = other
		case 4:
			c.Interface = !c.Interface
		case 5, 6:
			c.Interfaces = append(slices.Clone(c.Interfaces), other)
		case 7:
			c.Interfaces = slices.Insert(slices.Clone(c.Interfaces), d.roll(len(c.Interfaces)+1), pick(d, "none", "", other, c.Name, "Object"))
		case 8:
			c.Interface, c.Super, c.Interfaces = true, "Object", []string{other}
		}
	}
	return l
}

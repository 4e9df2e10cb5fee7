package layout_test

import (
	"fmt"
	"slices"
	"strings"
	"testing"

	"warpbeam/api"
	"warpbeam/layout"
	"warpbeam/link"
)

// model is what the chapter's words make of a set of classes.
type model struct {
	set *link.Set
}

// class is a class as it was handed in; nothing of the built in ones.
func (m model) class(i int) api.Class {
	c, _ := m.set.Class(i)
	return c
}

// line are a class, the class above it, and so on up to Object.
func (m model) line(i int) []int {
	var l []int
	for ; i >= 0; i = m.set.Super(i) {
		l = append(l, i)
	}
	return l
}

func sameProto(a, b api.Proto) bool {
	return a.Ret == b.Ret && slices.Equal(a.Args, b.Args)
}

// alike tells whether two methods have the same name and proto.
func alike(a, b api.Method) bool {
	return a.Name == b.Name && sameProto(a.Proto, b.Proto)
}

// has tells whether there is a method in classes that is alike, and of which that is so.
func (m model) has(classes []int, a api.Method, isSo func(b api.Method) bool) bool {
	for _, i := range classes {
		for _, b := range m.class(i).Methods {
			if alike(a, b) && isSo(b) {
				return true
			}
		}
	}
	return false
}

// fault is what the chapter's words say of classes that do not fit.
func (m model) fault() (string, api.Errno) {
	for i := link.BuiltIn; i < m.set.Len(); i++ {
		if m.fits1(i) != true {
			return m.set.Name(i), api.ErrTwice
		}
		if !m.fits2(i) || !m.fits3(i) || !m.fits4(i) || !m.fits5(i) {
			return m.set.Name(i), api.ErrLink
		}
	}
	return "", api.OK
}

// fits1 and those behind it are what a class has to be to fit.
func (m model) fits1(i int) bool {
	c := m.class(i)
	for at, f := range c.Fields {
		for _, g := range c.Fields[:at] {
			if f.Name == g.Name {
				return false
			}
		}
	}
	for at, a := range c.Methods {
		for _, b := range c.Methods[:at] {
			if alike(a, b) {
				return false
			}
		}
	}
	return true
}

func (m model) fits2(i int) bool {
	c := m.class(i)
	for _, f := range c.Fields {
		if !m.set.MayType(f.Type) {
			return false
		}
	}
	for _, a := range c.Methods {
		if len(a.Proto.Args) > 16 {
			return false
		}
		for _, arg := range a.Proto.Args {
			if !m.set.MayType(arg) {
				return false
			}
		}
		isVoid := a.Proto.Ret.Kind == 0 && a.Proto.Ret.Name == ""
		if !isVoid && !m.set.MayType(a.Proto.Ret) {
			return false
		}
	}
	return true
}

func (m model) fits3(i int) bool {
	c := m.class(i)
	for _, f := range c.Fields {
		if c.Interface && !f.Static {
			return false
		}
	}
	for _, a := range c.Methods {
		if c.Interface && !a.Static && !a.Abstract || !c.Interface && a.Abstract || a.Static && a.Abstract {
			return false
		}
	}
	return true
}

func (m model) fits4(i int) bool {
	for _, a := range m.class(i).Methods {
		if m.has(m.line(i)[1:], a, func(b api.Method) bool { return a.Static && !b.Static || !a.Static && b.Static }) {
			return false
		}
	}
	return true
}

func (m model) fits5(i int) bool {
	if m.class(i).Interface {
		return true
	}
	for _, up := range m.set.Above(i) {
		c := m.class(up)
		for _, a := range c.Methods {
			if c.Interface && a.Abstract && !m.has(m.line(i), a, func(b api.Method) bool { return !b.Static }) {
				return false
			}
		}
	}
	return true
}

// slots are the types of the fields of an object, from Object on down.
func (m model) slots(i int) []api.Type {
	if i < 0 || m.class(i).Interface {
		return nil
	}
	types := m.slots(m.set.Super(i))
	for _, f := range m.class(i).Fields {
		if !f.Static {
			types = append(types, f.Type)
		}
	}
	return types
}

// statics are the places of all static fields, in their order.
func (m model) statics() []layout.Place {
	var l []layout.Place
	for i := range m.set.Len() {
		for index, f := range m.class(i).Fields {
			if f.Static {
				l = append(l, layout.Place{Class: i, Index: index, Static: true, Slot: len(l), Type: f.Type})
			}
		}
	}
	return l
}

// field is where a class's field of a name lies.
func (m model) field(i int, name string) (layout.Place, bool) {
	for _, up := range m.set.Above(i) {
		slot := len(m.slots(m.set.Super(up)))
		for index, f := range m.class(up).Fields {
			if f.Name == name && f.Static {
				all := m.statics()
				return all[slices.IndexFunc(all, func(p layout.Place) bool { return p.Class == up && p.Index == index })], true
			}
			if f.Name == name {
				return layout.Place{Class: up, Index: index, Slot: slot, Type: f.Type}, true
			}
			if !f.Static {
				slot++
			}
		}
	}
	return layout.Place{}, false
}

// where is where a method stands.
type where struct{ class, index int }

// methods are all methods, by their numbers.
func (m model) methods() []where {
	var l []where
	for i := range m.set.Len() {
		for index := range m.class(i).Methods {
			l = append(l, where{i, index})
		}
	}
	return l
}

// number is the number of the first method through classes of which that is so.
func (m model) number(classes []int, name string, p api.Proto, isSo func(b api.Method) bool) (int, bool) {
	for _, i := range classes {
		for index, b := range m.class(i).Methods {
			if b.Name == name && sameProto(b.Proto, p) && isSo(b) {
				return slices.Index(m.methods(), where{i, index}), true
			}
		}
	}
	return 0, false
}

func (m model) find(i int, name string, p api.Proto) (int, bool) {
	return m.number(m.set.Above(i), name, p, func(api.Method) bool { return true })
}

func (m model) call(i int, name string, p api.Proto) (int, bool) {
	if m.class(i).Interface || i < 0 || i >= m.set.Len() {
		return 0, false
	}
	return m.number(m.line(i), name, p, func(b api.Method) bool { return !b.Static && !b.Abstract })
}

// brief are classes as a short text.
func brief(l []api.Class) string {
	var out strings.Builder
	for _, c := range l {
		fmt.Fprintf(&out, "%q(%q %v %q", c.Name, c.Super, c.Interface, c.Interfaces)
		for _, f := range c.Fields {
			fmt.Fprintf(&out, " %q %v %v", f.Name, f.Type, f.Static)
		}
		for _, a := range c.Methods {
			fmt.Fprintf(&out, " %q %v %v %v", a.Name, a.Proto, a.Static, a.Abstract)
		}
		out.WriteString(") ")
	}
	return fmt.Sprintf("%.2500s", out.String())
}

// linked is a set of classes.
func linked(t *testing.T, l []api.Class) *link.Set {
	t.Helper()
	s, name, e := link.New(l)
	if e != api.OK {
		t.Fatalf("New(%s): %q, %d", brief(l), name, e)
	}
	return s
}

// laid is the layout of classes that fit.
func laid(t *testing.T, l []api.Class) *layout.Layout {
	t.Helper()
	s := linked(t, l)
	if name, e := (model{s}).fault(); e != api.OK {
		t.Fatalf("the model of %s: %q, %d", brief(l), name, e)
	}
	x, name, e := layout.Of(s)
	if x == nil || name != "" || e != api.OK {
		t.Fatalf("Of(%s): %v, %q, %d", brief(l), x, name, e)
	}
	return x
}

// wantFault tells that classes do not fit: which error there is, and of which class.
func wantFault(t *testing.T, l []api.Class, wantName string, wantE api.Errno) {
	t.Helper()
	s := linked(t, l)
	if name, e := (model{s}).fault(); name != wantName || e != wantE {
		t.Fatalf("the model of %s: %q, %d; want %q, %d", brief(l), name, e, wantName, wantE)
	}
	if x, name, e := layout.Of(s); x != nil || name != wantName || e != wantE {
		t.Errorf("Of(%s): %v, %q, %d; want %q, %d", brief(l), x != nil, name, e, wantName, wantE)
	}
}

// wantModel holds all that a layout tells against a model.
func wantModel(t *testing.T, x *layout.Layout) {
	t.Helper()
	m := model{x.Set()}
	names, protos := asked(m)
	var statics []api.Type
	for _, p := range m.statics() {
		statics = append(statics, p.Type)
	}
	if got := x.Statics(); !slices.Equal(got, statics) {
		t.Errorf("Statics: %v; want %v", got, statics)
	}
	methods := m.methods()
	if x.Methods() != len(methods) {
		t.Errorf("Methods: %d; want %d", x.Methods(), len(methods))
	}
	for n, want := range methods {
		if class, index, is := x.Method(n); class != want.class || index != want.index || !is {
			t.Errorf("Method(%d): %d, %d, %v; want %v", n, class, index, is, want)
		}
	}
	for i := range m.set.Len() {
		if got := x.Slots(i); !slices.Equal(got, m.slots(i)) {
			t.Errorf("Slots(%s): %v; want %v", m.set.Name(i), got, m.slots(i))
		}
		for _, name := range names {
			wantNamed(t, x, m, i, name, protos)
		}
	}
}

// wantNamed holds what a layout tells of a class and a name against a model.
func wantNamed(t *testing.T, x *layout.Layout, m model, i int, name string, protos []api.Proto) {
	t.Helper()
	place, is := x.Field(i, name)
	if want, wantIs := m.field(i, name); place != want || is != wantIs {
		t.Errorf("Field(%s, %q): %v, %v; want %v, %v", m.set.Name(i), name, place, is, want, wantIs)
	}
	for _, p := range protos {
		n, is := x.Find(i, name, p)
		if want, wantIs := m.find(i, name, p); n != want || is != wantIs {
			t.Errorf("Find(%s, %q, %v): %d, %v; want %d, %v", m.set.Name(i), name, p, n, is, want, wantIs)
		}
		n, is = x.Call(i, name, p)
		if want, wantIs := m.call(i, name, p); n != want || is != wantIs {
			t.Errorf("Call(%s, %q, %v): %d, %v; want %d, %v", m.set.Name(i), name, p, n, is, want, wantIs)
		}
	}
}

// asked are the names and protos of all that classes have, and some that they have not.
func asked(m model) (names []string, protos []api.Proto) {
	names = []string{"", "none", "Object"}
	protos = []api.Proto{{}, {Ret: api.Type{Name: "Object"}}, {Args: []api.Type{{}}}, {Ret: api.Type{Kind: -1}}}
	for i := range m.set.Len() {
		c := m.class(i)
		for _, f := range c.Fields {
			names = append(names, f.Name)
		}
		for _, a := range c.Methods {
			names = append(names, a.Name)
			if !slices.ContainsFunc(protos, func(p api.Proto) bool { return sameProto(p, a.Proto) }) {
				protos = append(protos, a.Proto)
			}
		}
	}
	slices.Sort(names)
	return slices.Compact(names), protos
}

// dice are numbers that look like none, always the same.
type dice struct{ state uint64 }

func (d *dice) roll(n int) int {
	d.state = d.state*6364136223846793005 + 1442695040888963407
	return int(d.state>>33) % n
}

// pick is one of some.
func pick[E any](d *dice, l ...E) E { return l[d.roll(len(l))] }

// shuffled is a list in another order.
func shuffled[E any](d *dice, l []E) []E {
	l = slices.Clone(l)
	for i := range l {
		k := i + d.roll(len(l)-i)
		l[i], l[k] = l[k], l[i]
	}
	return l
}

// bare are classes that can be put together: each is above none that came ahead of it. They have nothing yet.
func bare(d *dice, size int) []api.Class {
	supers, faces := []string{"Object", "Throwable", "Arith"}, []string{}
	var l []api.Class
	for i := range size {
		c := api.Class{Name: fmt.Sprintf("%s%d", pick(d, "a", "Z", "_", "$", "z9"), i), Super: "Object", Interface: d.roll(5) < 2}
		if !c.Interface {
			c.Super = pick(d, pick(d, supers...), supers[max(0, len(supers)-1-d.roll(3))])
		}
		c.Interfaces = shuffled(d, faces)[:d.roll(min(len(faces), 3)+1)]
		if c.Interface {
			faces = append(faces, c.Name)
		} else {
			supers = append(supers, c.Name)
		}
		l = append(l, c)
	}
	return l
}

// someType is a type that may be, where there are classes.
func someType(d *dice, l []api.Class) api.Type {
	name := pick(d, "Object", "Store", pick(d, l...).Name)
	return pick(d, api.Type{Kind: 1}, api.Type{Kind: 2}, api.Type{Kind: 4}, api.Type{Kind: 5}, api.Type{Kind: 3, Name: name}, api.Type{Kind: 6, Name: name})
}

// signs are methods' names and protos: few, so that they meet; some of them of static methods alone, the others of classes' methods that are not.
func signs(d *dice, l []api.Class) []api.Method {
	some := someType(d, l)
	var made []api.Method
	for _, name := range []string{"m", "n", "x"} {
		for _, p := range []api.Proto{{}, {Ret: some}, {Args: []api.Type{some}}, {Args: []api.Type{{Kind: 1}, some}}, {Args: []api.Type{some, {Kind: 1}}}} {
			m := api.Method{Static: d.roll(3) == 0, Name: name, Proto: p}
			// Of the protos some are the same, if the type is an int.
			if !slices.ContainsFunc(made, func(other api.Method) bool { return alike(m, other) }) {
				made = append(made, m)
			}
		}
	}
	return made
}

// someFit are classes that fit.
func someFit(d *dice, size int) []api.Class {
	l := bare(d, size)
	all := signs(d, l)
	for i := range l {
		c := &l[i]
		for _, name := range shuffled(d, []string{"x", "y", "z", "m", ""})[:d.roll(5)] {
			c.Fields = append(c.Fields, api.Field{Static: c.Interface || d.roll(3) == 0, Name: name, Type: someType(d, l)})
		}
		for _, a := range shuffled(d, all)[:d.roll(5)] {
			// An interface may have a static one where classes have one that is not.
			a.Static = a.Static || c.Interface && d.roll(3) == 0
			a.Abstract = c.Interface && !a.Static
			c.Methods = append(c.Methods, a)
		}
	}
	fill(d, l)
	return shuffled(d, l)
}

// fill gives classes the methods that their interfaces ask for, most of them to the first one that lacks them.
func fill(d *dice, l []api.Class) {
	for i := range l {
		c := &l[i]
		s, _, _ := link.New(l)
		m := model{s}
		n, _ := s.Number(c.Name)
		for _, up := range s.Above(n) {
			for _, a := range m.class(up).Methods {
				if !a.Abstract || c.Interface || m.has(m.line(n), a, func(api.Method) bool { return true }) {
					continue
				}
				a.Abstract = false
				if !slices.ContainsFunc(c.Methods, func(b api.Method) bool { return alike(a, b) }) {
					c.Methods = slices.Insert(c.Methods, d.roll(len(c.Methods)+1), a)
				}
			}
		}
	}
}

// some are classes that fit, or not, most of them nearly.
func some(d *dice) []api.Class {
	l := someFit(d, 2+d.roll(6))
	for range 1 + d.roll(3) {
		c := &l[d.roll(len(l))]
		if d.roll(3) == 0 && len(c.Fields) > 0 {
			spoilField(d, &c.Fields[d.roll(len(c.Fields))])
		} else if len(c.Methods) > 0 {
			at := d.roll(len(c.Methods))
			if d.roll(4) == 0 {
				c.Methods = slices.Delete(c.Methods, at, at+1)
				continue
			}
			spoilMethod(d, &c.Methods[at])
		}
	}
	return l
}

// noTypes are types that may not be.
func noTypes() []api.Type {
	return []api.Type{{}, {Kind: -1}, {Kind: 7}, {Kind: 1, Name: "Object"}, {Kind: 2, Name: "Object"}, {Kind: 4, Name: "Object"}, {Kind: 5, Name: "Object"}, {Kind: 3}, {Kind: 6}, {Kind: 3, Name: "none"}, {Kind: 6, Name: "none"}, {Kind: 0, Name: "Object"}, {Kind: 1<<32 + 1}, {Kind: 3, Name: "LObject;"}}
}

func spoilField(d *dice, f *api.Field) {
	switch d.roll(3) {
	case 0:
		f.Name = pick(d, "x", "y", "z")
	case 1:
		f.Type = pick(d, noTypes()...)
	case 2:
		f.Static = !f.Static
	}
}

func spoilMethod(d *dice, a *api.Method) {
	switch d.roll(7) {
	case 0:
		a.Name = pick(d, "m", "n", "x", "none")
	case 1:
		a.Proto.Ret = pick(d, append(noTypes(), api.Type{Kind: 1})...)
	case 2:
		a.Proto.Args = append(slices.Clone(a.Proto.Args), pick(d, append(noTypes(), api.Type{Kind: 1})...))
	case 3:
		a.Proto.Args = nil
	case 4:
		a.Abstract = !a.Abstract
	case 5, 6:
		a.Static = !a.Static
	}
}

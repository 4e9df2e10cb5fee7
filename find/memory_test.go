package find_test

import (
	"reflect"
	"slices"
	"strings"
	"testing"
	"unsafe"

	"warpbeam/api"
	"warpbeam/find"
	"warpbeam/layout"
	"warpbeam/link"
)

// full are the constants of all in rich that has a name in its type or proto, and of some that there is not.
func full() (l constants, classes, fields, methods []int) {
	for _, class := range []string{"A", "C", "L", "Object", "none"} {
		classes = append(classes, l.class(class))
		for _, name := range []string{"r", "b", "j", "none"} {
			for _, typ := range []string{"LA;", "[LB;", "LI;", "L;"} {
				fields = append(fields, l.field(class, name, typ))
			}
		}
		for _, name := range []string{"c", "main", "m", "none"} {
			for _, p := range []string{"(JLA;)[I", "(I)V", "()V", "()"} {
				methods = append(methods, l.method(class, name, p))
			}
		}
	}
	return l, classes, fields, methods
}

// told is all that a set and its layout tell.
func told(s *link.Set, x *layout.Layout) []any {
	l := []any{x.Set() == s, x.Statics(), x.Methods()}
	for i := range s.Len() {
		c, _ := s.Class(i)
		l = append(l, c, s.Name(i), s.Above(i), s.Interfaces(i), x.Slots(i))
	}
	return l
}

// roomy is a list with spare room, in which something stands.
func roomy(l []api.Const) []api.Const {
	more := []api.Const{{Kind: api.ConstText, Text: "A"}, {Kind: api.ConstClass, A: 1}, {Kind: -1}}
	return slices.Concat(l, more)[: len(l) : len(l)+len(more)]
}

func TestP115Untouched(t *testing.T) {
	s, x := world(t, rich())
	l, _, _, _ := full()
	for _, pool := range [][]api.Const{l.l, kinds(), {}, {{}}} {
		c := rich()[1]
		c.Pool = roomy(pool)
		before, beforeClass, wholeBefore := told(s, x), rich()[1], slices.Clone(c.Pool[:cap(c.Pool)])
		for n := -1; n <= cap(c.Pool); n++ {
			find.Class(s, c, n)
			find.Field(s, x, c, n)
			find.Method(s, x, c, n)
		}
		for _, name := range []string{"main", "go", "m", "none"} {
			find.Entry(s, x, "A", name)
			find.Entry(s, x, "Z", name)
		}
		if !slices.Equal(c.Pool[:cap(c.Pool)], wholeBefore) {
			t.Errorf("%v has become %v", wholeBefore, c.Pool[:cap(c.Pool)])
		}
		c.Pool = nil
		if !reflect.DeepEqual(c, beforeClass) || !reflect.DeepEqual(told(s, x), before) {
			t.Error("what is handed in has changed")
		}
	}
}

// What stands in the spare room is none of the constants.
func TestP115SpareRoom(t *testing.T) {
	s, x := world(t, rich())
	c := api.Class{Pool: roomy(kinds())}
	for n := len(c.Pool); n < cap(c.Pool); n++ {
		wantClass(t, s, c, n, 0, api.ErrPool)
		wantField(t, s, x, c, n, layout.Place{}, api.ErrPool)
		wantMethod(t, s, x, c, n, find.Meant{}, api.ErrPool)
	}
}

// Constants that are written over afterwards leave what was answered as it was, and are not what is answered of later.
func TestP115NotKept(t *testing.T) {
	s, x := world(t, rich())
	l, _, fields, methods := full()
	pool := slices.Clone(l.l)
	var places []layout.Place
	var meant []find.Meant
	for _, n := range fields {
		p, _ := find.Field(s, x, api.Class{Pool: pool}, n)
		places = append(places, p)
	}
	for _, n := range methods {
		m, _ := find.Method(s, x, api.Class{Pool: pool}, n)
		meant = append(meant, m)
	}
	clear(pool)
	for i, n := range fields {
		wantField(t, s, x, api.Class{Pool: pool}, n, layout.Place{}, api.ErrPool)
		if p, _ := find.Field(s, x, l.of(), n); p != places[i] {
			t.Errorf("Field(%d): %v; before %v", n, p, places[i])
		}
	}
	for i, n := range methods {
		wantMethod(t, s, x, api.Class{Pool: pool}, n, find.Meant{}, api.ErrPool)
		if m, _ := find.Method(s, x, l.of(), n); !sameMeant(m, meant[i]) {
			t.Errorf("Method(%d): %v; before %v", n, m, meant[i])
		}
	}
}

// What is done to the arguments of a proto that was answered changes nothing that is told later.
func TestP115NewArgs(t *testing.T) {
	s, x := world(t, rich())
	l, _, _, methods := full()
	before := told(s, x)
	for range 2 {
		for _, n := range methods {
			want, wantE := find.Method(s, x, l.of(), n)
			want.Proto.Args = slices.Clone(want.Proto.Args)
			m, _ := find.Method(s, x, l.of(), n)
			other, _ := find.Method(s, x, l.of(), n)
			for i := range m.Proto.Args[:cap(m.Proto.Args)] {
				m.Proto.Args[:cap(m.Proto.Args)][i] = api.Type{Kind: 99, Name: "wiped"}
			}
			if !sameMeant(other, want) {
				t.Errorf("Method(%d): %v; want %v", n, other, want)
			}
			wantMethod(t, s, x, l.of(), n, want, wantE)
		}
	}
	if !reflect.DeepEqual(told(s, x), before) {
		t.Error("the set or the layout has changed")
	}
}

// wantApart tells that no two texts share memory.
func wantApart(t *testing.T, texts []string) {
	t.Helper()
	had := map[uintptr]string{}
	for _, s := range texts {
		if s == "" {
			continue
		}
		from := uintptr(unsafe.Pointer(unsafe.StringData(s)))
		for at := from; at < from+uintptr(len(s)); at++ {
			if other, is := had[at]; is {
				t.Errorf("%q and %q share memory", s, other)
			}
			had[at] = s
		}
	}
}

// No text that is answered shares memory with one that is handed in, nor with another one of that answer, or of another.
func TestP115NewTexts(t *testing.T) {
	classes := rich()
	s, x := world(t, classes)
	l, _, fields, methods := full()
	pair := l.method("Z", "pair", "(LA;LA;[LB;)LA;")
	pool := slices.Clone(l.l)
	var texts []string
	for i := range pool {
		pool[i].Text = strings.Clone(pool[i].Text)
		texts = append(texts, pool[i].Text)
	}
	c, found := api.Class{Pool: pool}, 0
	for range 2 {
		for _, n := range fields {
			p, e := find.Field(s, x, c, n)
			texts = append(texts, p.Type.Name)
			if e == api.OK {
				found++
			}
		}
		for _, n := range append(methods, pair) {
			m, e := find.Method(s, x, c, n)
			if n == pair && len(m.Proto.Args) != 3 {
				t.Errorf("Method(%d): %v, %d", n, m, e)
			}
			texts = append(texts, m.Name, m.Proto.Ret.Name)
			for _, arg := range m.Proto.Args {
				texts = append(texts, arg.Name)
			}
			if e == api.OK {
				found++
			}
		}
	}
	if found < 20 {
		t.Errorf("%d are found", found)
	}
	wantApart(t, texts)
}

// What is done to the classes that the set was made of changes nothing that is found.
func TestP115ClassesNotKept(t *testing.T) {
	l := rich()
	s, x := world(t, l)
	for _, c := range l {
		clear(c.Fields)
		clear(c.Methods)
	}
	clear(l)
	wantModel(t, s, x)
	other, y := world(t, rich())
	if !reflect.DeepEqual(told(s, x), told(other, y)) {
		t.Error("the set has changed")
	}
}

// Nothing hangs on what was asked before, of this set or of another one.
func TestP115Apart(t *testing.T) {
	s, x := world(t, rich())
	other, y := world(t, example())
	for range 2 {
		wantModel(t, s, x)
		wantModel(t, other, y)
		find.Class(nil, api.Class{}, 0)
		find.Field(s, y, exampleConstants(), 5)
		find.Method(other, x, exampleConstants(), 8)
		find.Entry(nil, nil, "A", "main")
	}
	// A layout that is copied is as good.
	z := *x
	wantModel(t, s, &z)
}

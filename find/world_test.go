package find_test

import (
	"fmt"
	"slices"
	"testing"

	"warpbeam/api"
	"warpbeam/find"
	"warpbeam/layout"
	"warpbeam/link"
)

var (
	anInt  = api.Type{Kind: api.KindInt}
	aLong  = api.Type{Kind: api.KindLong}
	ints   = api.Type{Kind: api.KindInts}
	void   = api.Proto{}
	ofInt  = api.Proto{Args: []api.Type{anInt}}
	giving = api.Proto{Ret: anInt}
)

func ref(name string) api.Type  { return api.Type{Kind: api.KindRef, Name: name} }
func refs(name string) api.Type { return api.Type{Kind: api.KindRefs, Name: name} }

func proto(ret api.Type, args ...api.Type) api.Proto { return api.Proto{Ret: ret, Args: args} }

// class and face are a class and an interface, without fields and methods.
func class(name, super string, interfaces ...string) api.Class {
	return api.Class{Name: name, Super: super, Interfaces: interfaces}
}

func face(name string, interfaces ...string) api.Class {
	return api.Class{Name: name, Super: "Object", Interface: true, Interfaces: interfaces}
}

// having is a class with fields and methods.
func having(c api.Class, fields []api.Field, methods ...api.Method) api.Class {
	c.Fields, c.Methods = fields, methods
	return c
}

func field(name string, typ api.Type) api.Field { return api.Field{Name: name, Type: typ} }

func static(name string, typ api.Type) api.Field {
	return api.Field{Static: true, Name: name, Type: typ}
}

// plain, still and empty are a method of an object, a static one, and an abstract one.
func plain(name string, p api.Proto) api.Method { return api.Method{Name: name, Proto: p} }

func still(name string, p api.Proto) api.Method {
	return api.Method{Static: true, Name: name, Proto: p}
}

func empty(name string, p api.Proto) api.Method {
	return api.Method{Abstract: true, Name: name, Proto: p}
}

// example are the classes of the chapter's examples.
func example() []api.Class {
	return []api.Class{having(class("A", "Object"), []api.Field{field("x", anInt)}, plain("m", void)), class("B", "A")}
}

// rich are classes with fields and methods of many kinds, some of one name: A 8, B 9, C 10, I 11, J 12, K 13, L 14, Z 15.
func rich() []api.Class {
	return []api.Class{
		// Slots: x 0, r 1; static: y 0. Methods 0 to 3.
		having(class("A", "Object", "I"), []api.Field{field("x", anInt), static("y", aLong), field("r", ref("A"))}, plain("m", void), still("main", void), still("main", ofInt), plain("k", proto(anInt, anInt))),
		// Slots: x 2, b 3. Methods 4, 5.
		having(class("B", "A", "J"), []api.Field{field("x", aLong), field("b", refs("B"))}, plain("m", void), still("s", void)),
		// Method 6.
		having(class("C", "B"), nil, plain("c", proto(ints, aLong, ref("A")))),
		// Static: i 1, x 2. Methods 7, 8.
		having(face("I"), []api.Field{static("i", anInt), static("x", anInt)}, empty("k", proto(anInt, anInt)), still("f", void)),
		// Static: j 3. Methods 9, 10.
		having(face("J", "K"), []api.Field{static("j", ref("I"))}, empty("m", void), still("main", void)),
		// Static: k 4, i 5. Methods 11 to 13.
		having(face("K"), []api.Field{static("k", ints), static("i", aLong)}, empty("m", void), still("f", giving), still("f", void)),
		face("L", "J"),
		// Methods 14 to 20.
		having(class("Z", "Throwable"), nil, still("go", ofInt), still("go", void), plain("two", proto(aLong)), still("two", giving), still("two", void), still("args", proto(api.Type{}, aLong)), plain("pair", proto(ref("A"), ref("A"), ref("A"), refs("B")))),
	}
}

// world is a set of classes that fit, and its layout.
func world(t *testing.T, l []api.Class) (*link.Set, *layout.Layout) {
	t.Helper()
	s, name, e := link.New(l)
	if e != api.OK {
		t.Fatalf("New(%.2000v): %q, %d", l, name, e)
	}
	x, name, e := layout.Of(s)
	if e != api.OK {
		t.Fatalf("Of(%.2000v): %q, %d", l, name, e)
	}
	return s, x
}

// constants are those of a class that are added as they are asked for.
type constants struct{ l []api.Const }

// add adds a constant, and answers its place.
func (c *constants) add(k api.Const) int {
	if len(c.l) == 0 {
		c.l = []api.Const{{}}
	}
	if at := slices.Index(c.l, k); at > 0 {
		return at
	}
	c.l = append(c.l, k)
	return len(c.l) - 1
}

func (c *constants) text(s string) int { return c.add(api.Const{Kind: api.ConstText, Text: s}) }

func (c *constants) class(name string) int {
	return c.add(api.Const{Kind: api.ConstClass, A: c.text(name)})
}

func (c *constants) field(class, name, typ string) int {
	return c.add(api.Const{Kind: api.ConstField, A: c.class(class), B: c.text(name), C: c.text(typ)})
}

func (c *constants) method(class, name, proto string) int {
	return c.add(api.Const{Kind: api.ConstMethod, A: c.class(class), B: c.text(name), C: c.text(proto)})
}

// of is a class that has these constants, and nothing else.
func (c *constants) of() api.Class { return api.Class{Pool: c.l} }

// kinds are constants of each kind, and some of none: behind the first one a text, an int, a long, a class, a field and a method that there are (of rich), and others.
func kinds() []api.Const {
	return []api.Const{
		{}, {Kind: api.ConstText, Text: "A"}, {Kind: api.ConstInt, N: 1}, {Kind: api.ConstLong, N: 1}, {Kind: api.ConstClass, A: 1},
		{Kind: api.ConstField, A: 4, B: 7, C: 8}, {Kind: api.ConstMethod, A: 4, B: 9, C: 10},
		{Kind: api.ConstText, Text: "x"}, {Kind: api.ConstText, Text: "I"}, {Kind: api.ConstText, Text: "m"}, {Kind: api.ConstText, Text: "()V"},
		{Kind: -1, A: 1}, {Kind: 7, A: 4, B: 7, C: 8}, {Kind: 1<<32 + 4, A: 1}, {Kind: 99, A: 4, B: 9, C: 10},
	}
}

// noPlaces are places of no constant, where there are so many.
func noPlaces(size int) []int {
	return []int{-1 << 63, -1 << 32, -2, -1, size, size + 1, 4096, 1 << 32, 1<<32 + 4, 1<<63 - 1}
}

// wantClass and those behind it are what a call is to answer: with an error nothing else.
func wantClass(t *testing.T, s *link.Set, c api.Class, n, want int, wantE api.Errno) {
	t.Helper()
	if i, e := find.Class(s, c, n); i != want || e != wantE {
		t.Errorf("Class(%d), %s: %d, %d; want %d, %d", n, said(c, n), i, e, want, wantE)
	}
}

func wantField(t *testing.T, s *link.Set, x *layout.Layout, c api.Class, n int, want layout.Place, wantE api.Errno) {
	t.Helper()
	if p, e := find.Field(s, x, c, n); p != want || e != wantE {
		t.Errorf("Field(%d), %s: %v, %d; want %v, %d", n, said(c, n), p, e, want, wantE)
	}
}

func wantMethod(t *testing.T, s *link.Set, x *layout.Layout, c api.Class, n int, want find.Meant, wantE api.Errno) {
	t.Helper()
	if m, e := find.Method(s, x, c, n); !sameMeant(m, want) || e != wantE {
		t.Errorf("Method(%d), %s: %v, %d; want %v, %d", n, said(c, n), m, e, want, wantE)
	}
}

func wantEntry(t *testing.T, s *link.Set, x *layout.Layout, class, name string, want int, wantE api.Errno) {
	t.Helper()
	if n, e := find.Entry(s, x, class, name); n != want || e != wantE {
		t.Errorf("Entry(%.80q, %.80q): %d, %d; want %d, %d", class, name, n, e, want, wantE)
	}
}

// said is what a constant says, as a short text.
func said(c api.Class, n int) string {
	text := func(i int) string {
		if i < 0 || i >= len(c.Pool) {
			return "none"
		}
		return fmt.Sprintf("%.80q", c.Pool[i].Text)
	}
	if n < 0 || n >= len(c.Pool) {
		return "none"
	}
	k := c.Pool[n]
	if k.Kind == api.ConstClass || k.A < 0 || k.A >= len(c.Pool) {
		return fmt.Sprint(k.Kind, " ", text(k.A))
	}
	return fmt.Sprint(k.Kind, " ", text(c.Pool[k.A].A), " ", text(k.B), " ", text(k.C))
}

func sameProto(a, b api.Proto) bool { return a.Ret == b.Ret && slices.Equal(a.Args, b.Args) }

// sameMeant tells whether all seven things are the same.
func sameMeant(a, b find.Meant) bool {
	return a.Number == b.Number && a.Class == b.Class && a.Static == b.Static && a.Interface == b.Interface && a.Name == b.Name && sameProto(a.Proto, b.Proto)
}

package layout_test

import (
	"fmt"
	"slices"
	"strings"
	"testing"

	"warpbeam/api"
	"warpbeam/layout"
	"warpbeam/link"
)

var (
	anInt  = api.Type{Kind: api.KindInt}
	aLong  = api.Type{Kind: api.KindLong}
	void   = api.Proto{}
	ofInt  = api.Proto{Args: []api.Type{anInt}}
	giving = api.Proto{Ret: anInt}
)

func ref(name string) api.Type  { return api.Type{Kind: api.KindRef, Name: name} }
func refs(name string) api.Type { return api.Type{Kind: api.KindRefs, Name: name} }

// class and face are a class and an interface, without fields and methods.
func class(name, super string, interfaces ...string) api.Class {
	return api.Class{Name: name, Super: super, Interfaces: interfaces}
}

func face(name string, interfaces ...string) api.Class {
	return api.Class{Name: name, Super: "Object", Interface: true, Interfaces: interfaces}
}

// having is a class with fields, and with methods.
func having(c api.Class, fields []api.Field, methods ...api.Method) api.Class {
	c.Fields, c.Methods = fields, methods
	return c
}

// with is a class with methods alone.
func with(c api.Class, methods ...api.Method) api.Class { return having(c, nil, methods...) }

func field(name string, typ api.Type) api.Field { return api.Field{Name: name, Type: typ} }

func static(name string, typ api.Type) api.Field {
	return api.Field{Static: true, Name: name, Type: typ}
}

// plain, still and empty are a method of an object, a static one, and an abstract one.
func plain(name string, p api.Proto) api.Method { return api.Method{Name: name, Proto: p} }

func still(name string, p api.Proto) api.Method {
	return api.Method{Static: true, Name: name, Proto: p}
}

func empty(name string, p api.Proto) api.Method {
	return api.Method{Abstract: true, Name: name, Proto: p}
}

// example are the classes of the chapter's examples.
func example() []api.Class {
	return []api.Class{
		having(class("A", "Object"), []api.Field{field("x", anInt)}, plain("m", void)),
		having(class("B", "A", "I"), []api.Field{field("y", aLong), static("z", anInt)}, plain("m", void)),
		with(face("I"), empty("m", void)),
	}
}

// rich are classes with fields and methods of many kinds, some of one name.
func rich() []api.Class {
	return []api.Class{
		having(class("D", "C", "L"), []api.Field{field("x", refs("D")), static("s", ref("J")), field("d", anInt)}, plain("n", giving), plain("m", ofInt), still("d", void)),
		having(class("C", "B", "J"), []api.Field{static("c", aLong), static("x", anInt)}, plain("m", void), plain("k", ofInt), still("s", giving)),
		having(class("B", "Z"), []api.Field{field("b", ref("B")), field("x", aLong)}, plain("n", giving), plain("m", void), still("s", void)),
		having(class("Z", "Bounds", "I"), []api.Field{field("x", anInt), static("z", refs("Object")), field("s", anInt)}, plain("m", void), plain("i", ofInt), plain("z", void)),
		having(face("I"), []api.Field{static("i", anInt), static("s", aLong)}, empty("m", void), empty("i", ofInt)),
		having(face("J", "K"), []api.Field{static("j", anInt)}, empty("m", void), still("f", void)),
		having(face("K"), []api.Field{static("k", anInt), static("i", aLong)}, empty("k", ofInt), still("f", giving), still("f", void)),
		having(face("L", "K", "I", "J"), []api.Field{static("l", ref("L")), static("k", ref("K"))}, empty("n", giving)),
		class("Y", "Object"),
	}
}

func TestP101Examples(t *testing.T) {
	x := laid(t, example())
	if x.Set().Len() != 11 {
		t.Errorf("Set: %d classes", x.Set().Len())
	}
	l := example()
	l[0].Methods, l[1].Methods = nil, nil
	wantFault(t, l, "B", api.ErrLink)
	l = example()
	l[1].Methods = nil
	laid(t, l)
}

func TestP101NoSet(t *testing.T) {
	var zero link.Set
	for _, s := range []*link.Set{nil, {}, &zero} {
		if x, name, e := layout.Of(s); x != nil || name != "" || e != api.ErrNil {
			t.Errorf("Of: %v, %q, %d", x, name, e)
		}
	}
}

func TestP101NoClass(t *testing.T) {
	for _, l := range [][]api.Class{nil, {}} {
		x := laid(t, l)
		wantModel(t, x)
		if x.Methods() != 0 || len(x.Statics()) != 0 || x.Set().Len() != link.BuiltIn {
			t.Errorf("%d, %v, %d", x.Methods(), x.Statics(), x.Set().Len())
		}
	}
}

func TestP101Fitting(t *testing.T) {
	for _, l := range fitting() {
		laid(t, l)
	}
}

// fitting are classes that fit, few and many.
func fitting() [][]api.Class {
	l := [][]api.Class{nil, example(), rich(), {class("A", "Object")}, {face("I")}, {having(class("", "Object"), []api.Field{field("", ref(""))}, plain("", void))}}
	d := &dice{state: 5}
	for size := range 12 {
		l = append(l, someFit(d, 1+size))
	}
	return l
}

// alone wants a class A of such fields and methods not to fit, alone and beside others, ahead of which and behind which it stands.
func alone(t *testing.T, e api.Errno, fields []api.Field, methods ...api.Method) {
	t.Helper()
	c := having(class("K", "Object"), fields, methods...)
	wantFault(t, []api.Class{c}, "K", e)
	wantFault(t, []api.Class{class("J", "Object"), c, class("L", "K")}, "K", e)
	c.Super = "B"
	wantFault(t, append(example(), c), "K", e)
	c = having(face("K"), fields, methods...)
	wantFault(t, append(example(), c), "K", e)
}

// fits wants a class of such fields and methods to fit.
func fits(t *testing.T, fields []api.Field, methods ...api.Method) {
	t.Helper()
	laid(t, []api.Class{having(class("K", "Object"), fields, methods...)})
	for i := range fields {
		fields[i].Static = true
	}
	for i, m := range methods {
		methods[i].Abstract = !m.Static
	}
	laid(t, []api.Class{having(face("K"), fields, methods...)})
}

func TestP101Twice(t *testing.T) {
	alone(t, api.ErrTwice, []api.Field{field("a", anInt), field("a", anInt)})
	alone(t, api.ErrTwice, []api.Field{field("a", anInt), field("b", anInt), static("a", aLong)})
	alone(t, api.ErrTwice, []api.Field{static("", anInt), static("a", anInt), static("", anInt)})
	alone(t, api.ErrTwice, nil, plain("f", void), plain("f", void))
	alone(t, api.ErrTwice, nil, plain("f", giving), plain("g", giving), still("f", giving))
	alone(t, api.ErrTwice, nil, still("f", ofInt), still("f", api.Proto{Args: []api.Type{{Kind: 1}}}))
	alone(t, api.ErrTwice, nil, empty("f", api.Proto{Args: []api.Type{}}), plain("f", void))
	alone(t, api.ErrTwice, nil, plain("f", api.Proto{Ret: ref("none")}), plain("f", api.Proto{Ret: ref("none")}))
	long := api.Proto{Args: make([]api.Type, 20)}
	alone(t, api.ErrTwice, nil, plain("f", long), plain("f", long))
	fits(t, []api.Field{field("a", anInt), field("A", anInt), field("", anInt), field("a ", anInt), field("m", anInt)}, plain("a", void), plain("m", void))
}

// Methods of one name whose protos are another one fit; so do protos that would be the same text, if nothing stood between their parts.
func TestP101NotTwice(t *testing.T) {
	l := []api.Class{class("1 Object", "Object"), class("Object1 ", "Object"), class("6 Object", "Object"), class("", "Object"), class("1", "Object"), class("11", "Object"), class("1 1", "Object")}
	var types []api.Type
	for _, c := range l {
		types = append(types, ref(c.Name), refs(c.Name))
	}
	types = append(types, anInt, aLong, ref("Object"), refs("Object"), api.Type{Kind: api.KindInts}, api.Type{Kind: api.KindLongs})
	var methods []api.Method
	for _, name := range []string{"f", "f1", "", "1 f", "0", "f0 0 "} {
		methods = append(methods, plain(name, void), plain(name, api.Proto{Args: make([]api.Type, 16)}))
		for i := range 16 {
			methods[len(methods)-1].Proto.Args[i] = anInt
		}
		for _, a := range types {
			methods = append(methods, plain(name, api.Proto{Ret: a}), plain(name, api.Proto{Args: []api.Type{a}}))
			for _, b := range types {
				methods = append(methods, plain(name, api.Proto{Ret: a, Args: []api.Type{b}}), plain(name, api.Proto{Args: []api.Type{a, b}}))
			}
		}
	}
	l[0].Methods = methods
	s := linked(t, l)
	x, name, e := layout.Of(s)
	if e != api.OK {
		t.Fatalf("Of: %q, %d", name, e)
	}
	n, _ := s.Number("1 Object")
	for i, m := range methods {
		if k, is := x.Find(n, m.Name, m.Proto); k != i || !is {
			t.Errorf("Find(%q, %v): %d, %v; want %d", m.Name, m.Proto, k, is, i)
		}
	}
	l[6].Methods = append(slices.Clone(methods), methods[77])
	l[0].Methods = nil
	wantFault(t, l, "1 1", api.ErrTwice)
}

// Names that look like lengths and kinds, so that what stands ahead of a name could be taken for a part of it.
func TestP101NamesLikeNumbers(t *testing.T) {
	l := []api.Class{class("ppppppp00", "Object"), class("0", "Object"), class("00000000000", "Object"), class("pppp 0 0 ", "Object")}
	l[1].Methods = []api.Method{
		plain("1", api.Proto{Args: []api.Type{ref("ppppppp00")}}), plain("0039ppppppp", void),
		plain("1", api.Proto{Args: []api.Type{ref("pppp 0 0 ")}}), plain("0 0 3 9 pppp", void), plain("0 0 3 9 pppp ", void),
		plain("", void), plain("", giving), plain("", api.Proto{Ret: ref("0")}), plain("", api.Proto{Args: []api.Type{ref("00000000000")}}),
	}
	x := laid(t, l)
	wantModel(t, x)
	wantBoth(t, x, 8, "", api.Proto{Ret: api.Type{Kind: 31, Name: "0"}}, -1, -1)
	wantBoth(t, x, 8, "", api.Proto{Ret: api.Type{Kind: 0, Name: "0"}}, -1, -1)
}

func TestP101Types(t *testing.T) {
	for _, typ := range noTypes() {
		alone(t, api.ErrLink, []api.Field{field("a", anInt), field("b", typ)})
		alone(t, api.ErrLink, []api.Field{static("b", typ), static("a", anInt)})
		alone(t, api.ErrLink, nil, plain("g", void), plain("f", api.Proto{Args: []api.Type{anInt, typ}}))
		alone(t, api.ErrLink, nil, still("f", api.Proto{Ret: aLong, Args: []api.Type{typ, anInt}}))
		if typ != (api.Type{}) {
			alone(t, api.ErrLink, nil, plain("f", api.Proto{Ret: typ}))
		}
	}
	for _, typ := range []api.Type{anInt, aLong, {Kind: 4}, {Kind: 5}, ref("Object"), refs("Store"), ref("K"), refs("K")} {
		fits(t, []api.Field{field("a", typ), static("b", typ)}, plain("f", api.Proto{Args: []api.Type{typ}}), plain("f", api.Proto{Ret: typ}), still("f", api.Proto{Ret: typ, Args: []api.Type{typ, typ}}))
	}
	fits(t, nil, plain("f", void), still("g", api.Proto{Ret: api.Type{Kind: api.KindVoid}}))
}

func TestP101HowManyArgs(t *testing.T) {
	for size := range 40 {
		var args []api.Type
		for range size {
			args = append(args, aLong)
		}
		p := api.Proto{Ret: anInt, Args: args}
		if size <= 16 {
			fits(t, nil, plain("f", p), still("g", p))
			continue
		}
		alone(t, api.ErrLink, nil, plain("f", p))
		alone(t, api.ErrLink, nil, plain("g", void), still("f", p))
	}
}

func TestP101Interfaces(t *testing.T) {
	wantFault(t, []api.Class{having(face("I"), []api.Field{field("a", anInt)})}, "I", api.ErrLink)
	wantFault(t, []api.Class{having(face("I"), []api.Field{static("a", anInt), field("b", anInt)})}, "I", api.ErrLink)
	wantFault(t, []api.Class{with(face("I"), plain("f", void))}, "I", api.ErrLink)
	wantFault(t, []api.Class{with(face("I"), empty("g", void), still("h", void), plain("f", void))}, "I", api.ErrLink)
	wantFault(t, []api.Class{with(class("A", "Object"), empty("f", void))}, "A", api.ErrLink)
	wantFault(t, []api.Class{with(class("A", "Object"), still("g", void), plain("h", void), empty("f", void))}, "A", api.ErrLink)
	both := api.Method{Static: true, Abstract: true, Name: "f"}
	wantFault(t, []api.Class{with(class("A", "Object"), both)}, "A", api.ErrLink)
	wantFault(t, []api.Class{with(face("I"), empty("g", void), both)}, "I", api.ErrLink)
	laid(t, []api.Class{having(face("I"), []api.Field{static("a", anInt), static("b", ref("I"))}, empty("f", void), still("g", void), empty("f", giving))})
	laid(t, []api.Class{having(class("A", "Object"), []api.Field{static("a", anInt), field("b", ref("A"))}, plain("f", void), still("g", void))})
}

// A static method and one that is not, of one name and proto, may not stand in classes above one another, be the class above near or far.
func TestP101Mixed(t *testing.T) {
	others := []api.Method{plain("g1", giving), still("g2", void)}
	for _, c := range []struct {
		above, below api.Method
		fits         bool
	}{
		{plain("f", void), still("f", void), false}, {still("f", void), plain("f", void), false},
		{plain("f", void), plain("f", void), true}, {still("f", void), still("f", void), true},
		{plain("f", void), still("f", giving), true}, {still("f", void), plain("f", ofInt), true},
		{plain("f", void), still("g", void), true}, {still("f", void), plain("F", void), true},
	} {
		for _, l := range [][]api.Class{
			{with(class("A", "B"), c.below), with(class("B", "Object"), c.above)},
			{with(class("A", "B"), others[0], others[1], c.below), with(class("B", "Object"), c.above, others[0])},
			{with(class("A", "B"), c.below), class("B", "C"), with(class("C", "Object"), c.above)},
			{with(class("A", "B"), c.below, others[0]), class("B", "C"), with(class("C", "D"), others...), with(class("D", "Arith"), others[1], c.above)},
			{with(class("A", "B", "I"), c.below), with(class("B", "C"), others[0]), with(class("C", "Null", "I"), c.above, others[0]), with(face("I", "J"), empty("g1", giving)), face("J")},
			{with(class("A", "B", "I"), c.below), with(class("B", "Object"), c.above), with(face("I"), still("f", void))},
		} {
			if c.fits {
				laid(t, l)
				continue
			}
			wantFault(t, l, "A", api.ErrLink)
		}
	}
}

// An interface is no class above: its static method may stand beside a class's that is not, if the class has the interface itself, or far from it.
func TestP101BesideInterfaces(t *testing.T) {
	m, s := plain("f", ofInt), still("f", ofInt)
	for _, l := range [][]api.Class{
		{with(class("A", "Object", "I"), m), with(face("I"), s)},
		{with(class("A", "Object", "J", "I"), plain("g", void), m), with(face("I"), still("g", void), s), face("J")},
		// by a class above, near and far
		{with(class("A", "B"), m), class("B", "Object", "I"), with(face("I"), s)},
		{with(class("A", "B"), m), class("B", "C"), class("C", "Cast", "I"), with(face("I"), s)},
		{class("A", "B", "I"), with(class("B", "Object"), m), with(face("I"), s)},
		{with(class("A", "B"), m), with(class("B", "Object", "I"), m), with(face("I"), s)},
		// through other interfaces, near and far
		{with(class("A", "Object", "I"), m), face("I", "K"), with(face("K"), s)},
		{with(class("A", "Object", "I"), m), face("I", "J", "K"), face("J"), face("K", "L"), with(face("L"), s)},
		{with(class("A", "B"), m), class("B", "C"), class("C", "Object", "I"), face("I", "K"), face("K", "L"), with(face("L"), s)},
		// beside one that asks for it
		{with(class("A", "Object", "I", "K"), m), with(face("I"), s), with(face("K"), empty("f", ofInt))},
		{with(class("A", "B", "K"), plain("g", void)), with(class("B", "Object", "I"), m), with(face("I"), s), with(face("K", "I"), empty("f", ofInt))},
	} {
		wantModel(t, laid(t, l))
		slices.Reverse(l)
		wantModel(t, laid(t, l))
	}
}

// Above an interface stands Object: one may have a static method where another one that it has has an abstract one; or the other way round.
func TestP101InterfacesBeside(t *testing.T) {
	for _, c := range [][2]api.Method{{still("f", giving), empty("f", giving)}, {empty("f", giving), still("f", giving)}} {
		for _, l := range [][]api.Class{
			{with(face("I", "K"), c[0]), with(face("K"), c[1])},
			{with(face("I", "J", "K"), empty("g", void), c[0]), face("J"), with(face("K"), still("g", void), c[1])},
			{with(face("I", "J"), c[0]), face("J", "K"), face("K", "L"), with(face("L"), c[1])},
			{with(class("A", "Object", "I"), plain("f", giving)), with(face("I", "K"), c[0]), with(face("K"), c[1])},
			{with(class("A", "Object", "J", "K"), plain("f", giving)), with(face("J"), c[0]), with(face("K"), c[1])},
		} {
			wantModel(t, laid(t, l))
		}
	}
}

func TestP101Lacking(t *testing.T) {
	i := with(face("I"), empty("f", void))
	for at, c := range []struct {
		l       []api.Class
		lacking string
	}{
		{[]api.Class{class("A", "Object", "I"), i}, "A"},
		{[]api.Class{with(class("A", "Object", "I"), plain("f", void)), i}, ""},
		{[]api.Class{with(class("A", "Object", "I"), plain("f", giving)), i}, "A"},
		{[]api.Class{with(class("A", "Object", "I"), plain("F", void)), i}, "A"},
		{[]api.Class{with(class("A", "Object", "I"), plain("f", ofInt), plain("g", void), plain("f", void)), i}, ""},
		// from a class above, near and far
		{[]api.Class{class("A", "B", "I"), with(class("B", "Object"), plain("f", void)), i}, ""},
		{[]api.Class{class("A", "B", "I"), class("B", "C"), class("C", "D"), with(class("D", "Null"), plain("g", void), plain("f", void)), i}, ""},
		{[]api.Class{class("A", "B", "I"), class("B", "C"), class("C", "D"), with(class("D", "Null"), plain("f", giving)), i}, "A"},
		// a class below has it, not the one that has the interface
		{[]api.Class{class("B", "Object", "I"), with(class("A", "B"), plain("f", void)), i}, "B"},
		{[]api.Class{class("A", "Object", "I"), with(class("B", "A"), plain("f", void)), i}, "A"},
		// another class has it
		{[]api.Class{class("A", "Object", "I"), with(class("B", "Object"), plain("f", void)), i}, "A"},
		// as a static one alone, in the class and above it
		{[]api.Class{with(class("A", "Object", "I"), still("f", void)), i}, "A"},
		{[]api.Class{class("A", "B", "I"), with(class("B", "Object"), still("f", void)), i}, "A"},
		{[]api.Class{class("A", "B", "I"), class("B", "C"), with(class("C", "Object"), still("f", void)), i}, "A"},
		{[]api.Class{with(class("A", "Object", "K", "I"), still("f", void)), with(face("K"), still("f", void)), i}, "A"},
		{[]api.Class{with(class("A", "Object", "J"), still("f", void)), with(face("J", "I"), still("f", void)), i}, "A"},
		{[]api.Class{class("A", "Object", "J"), with(face("J", "I"), still("f", void)), i}, "A"},
		// only by another interface
		{[]api.Class{class("A", "Object", "I", "J"), i, with(face("J"), empty("f", void))}, "A"},
		{[]api.Class{class("A", "Object", "J", "I"), i, with(face("J"), still("f", void))}, "A"},
		// of an interface of the class above, and of that interface's own ones
		{[]api.Class{class("A", "B"), class("B", "Object", "I"), i}, "A"},
		{[]api.Class{class("A", "B"), with(class("B", "Object", "I"), plain("f", void)), i}, ""},
		{[]api.Class{class("A", "Object", "L"), face("L", "K", "J"), face("J"), face("K", "I"), i}, "A"},
		{[]api.Class{with(class("A", "Object", "L"), plain("f", void)), face("L", "K", "J"), face("J"), face("K", "I"), i}, ""},
		{[]api.Class{class("Z", "Y"), with(class("Y", "X"), plain("g", void)), with(class("X", "Object"), plain("f", void)), class("W", "Z", "J"), face("J", "K", "I"), with(face("K"), empty("g", void)), i}, ""},
		{[]api.Class{class("Z", "Y"), class("Y", "X"), with(class("X", "Object"), plain("f", void)), class("W", "Z", "J"), face("J", "K", "I"), with(face("K"), empty("g", void)), i}, "W"},
		// by more than one way
		{[]api.Class{class("A", "B", "J", "K"), class("B", "Object", "I"), face("J", "I"), face("K", "J", "I"), i}, "A"},
		{[]api.Class{class("A", "B", "J", "K"), with(class("B", "Object", "I"), plain("f", void)), face("J", "I"), face("K", "J", "I"), i}, ""},
		{[]api.Class{class("A", "B", "J", "K"), with(class("B", "Object", "I"), plain("f", void)), face("J", "I"), with(face("K", "J", "I"), empty("f", giving)), i}, "A"},
		// an interface lacks nothing, a static method is not asked for
		{[]api.Class{face("J", "I"), i}, ""},
		{[]api.Class{class("A", "Object", "J"), with(face("J"), still("f", void), still("g", giving))}, ""},
	} {
		if c.lacking == "" {
			laid(t, c.l)
			continue
		}
		if s := linked(t, c.l); s == nil || t.Failed() {
			t.Fatalf("%d", at)
		}
		wantFault(t, c.l, c.lacking, api.ErrLink)
	}
}

// Of one class that two names are given twice in is told ahead of all else; of more than one the first one's fault is told, whatever it is.
func TestP101Order(t *testing.T) {
	none := ref("none")
	twiceFields, twiceMethods := []api.Field{field("a", anInt), field("a", anInt)}, []api.Method{plain("f", void), plain("f", void)}
	i := with(face("I"), empty("g", void))
	for _, c := range []struct {
		l    []api.Class
		name string
		e    api.Errno
	}{
		{[]api.Class{having(class("A", "Object", "I"), []api.Field{field("a", none), field("a", none)}, empty("f", void)), i}, "A", api.ErrTwice},
		{[]api.Class{having(class("A", "Object", "I"), []api.Field{field("a", none)}, append(twiceMethods, empty("h", void))...), i}, "A", api.ErrTwice},
		{[]api.Class{with(class("A", "Object", "I"), still("g", void), plain("g", void)), i}, "A", api.ErrTwice},
		{[]api.Class{with(class("A", "B"), still("f", void), plain("f", void)), with(class("B", "Object"), plain("f", void))}, "A", api.ErrTwice},
		{[]api.Class{having(face("J"), []api.Field{field("a", anInt), field("a", anInt)}, plain("f", void))}, "J", api.ErrTwice},
		{[]api.Class{having(class("B", "Object"), twiceFields), with(class("A", "Object"), twiceMethods...)}, "A", api.ErrTwice},
		{[]api.Class{having(class("B", "Object"), twiceFields), with(class("A", "Object"), empty("f", void))}, "A", api.ErrLink},
		{[]api.Class{having(class("B", "Object"), twiceFields), class("A", "Object", "I"), i}, "A", api.ErrLink},
		{[]api.Class{having(class("B", "Object"), []api.Field{field("a", none)}), having(class("A", "Object"), twiceFields)}, "A", api.ErrTwice},
		{[]api.Class{having(class("B", "A"), twiceFields), class("C", "A", "I"), class("A", "Object"), i}, "B", api.ErrTwice},
		{[]api.Class{having(class("a", "Object"), twiceFields), with(class("Z", "Object"), empty("f", void)), with(class("_", "Object"), twiceMethods...)}, "Z", api.ErrLink},
		{[]api.Class{class("J", "Object", "I"), with(face("I"), empty("g", void), plain("h", void))}, "I", api.ErrLink},
		{[]api.Class{class("H", "Object", "I"), with(face("I"), empty("g", void), empty("g", void))}, "H", api.ErrLink},
		{[]api.Class{with(class("J", "Object", "I"), plain("g", void)), with(face("I"), empty("g", void), empty("g", void))}, "I", api.ErrTwice},
	} {
		wantFault(t, c.l, c.name, c.e)
		slices.Reverse(c.l)
		wantFault(t, c.l, c.name, c.e)
	}
}

// A class may not fit because of one above it that does not fit itself, and comes behind it: all that stands there is looked at.
func TestP101UnfitAbove(t *testing.T) {
	both := api.Method{Static: true, Abstract: true, Name: "f"}
	for _, c := range []struct {
		l    []api.Class
		name string
		e    api.Errno
	}{
		{[]api.Class{with(class("A", "B"), plain("f", void)), with(class("B", "Object"), plain("f", void), still("f", void))}, "A", api.ErrLink},
		{[]api.Class{with(class("A", "B"), plain("f", void)), with(class("B", "Object"), still("f", void), plain("f", void))}, "A", api.ErrLink},
		{[]api.Class{with(class("A", "B"), still("f", void)), with(class("B", "Object"), plain("f", void), still("f", void))}, "A", api.ErrLink},
		{[]api.Class{with(class("A", "B"), still("f", void)), with(class("B", "Object"), still("f", void), plain("f", void))}, "A", api.ErrLink},
		{[]api.Class{class("A", "B"), with(class("B", "Object"), still("f", void), plain("f", void))}, "B", api.ErrTwice},
		{[]api.Class{with(class("A", "B"), plain("f", void)), with(class("B", "Object"), plain("f", void), plain("f", void))}, "B", api.ErrTwice},
		{[]api.Class{class("A", "B", "I"), with(class("B", "Object"), still("f", void), plain("f", void)), with(face("I"), empty("f", void))}, "B", api.ErrTwice},
		{[]api.Class{class("A", "B", "I"), with(class("B", "Object"), still("f", void), still("f", void)), with(face("I"), empty("f", void))}, "A", api.ErrLink},
		{[]api.Class{class("A", "B", "I"), with(class("B", "Object"), empty("f", void)), with(face("I"), empty("f", void))}, "B", api.ErrLink},
		{[]api.Class{with(class("A", "Object", "I"), plain("f", void)), with(face("I"), plain("f", void))}, "I", api.ErrLink},
		{[]api.Class{class("A", "Object", "I"), with(face("I"), plain("f", void))}, "I", api.ErrLink},
		{[]api.Class{with(class("A", "Object", "I"), plain("f", void)), with(face("I"), both)}, "I", api.ErrLink},
		{[]api.Class{with(class("A", "Object", "I"), still("f", void)), with(face("I"), both)}, "A", api.ErrLink},
		{[]api.Class{class("A", "Object", "I"), with(face("I"), both)}, "A", api.ErrLink},
		{[]api.Class{class("A", "Object", "I"), with(face("I"), plain("f", void), empty("f", void))}, "A", api.ErrLink},
		{[]api.Class{with(class("A", "B"), plain("f", api.Proto{Ret: ref("none")})), with(class("B", "Object"), plain("f", api.Proto{Ret: ref("none")}))}, "A", api.ErrLink},
	} {
		wantFault(t, c.l, c.name, c.e)
	}
}

func TestP101Model(t *testing.T) {
	d := &dice{state: 3}
	for range 300 {
		laid(t, someFit(d, 1+d.roll(10)))
	}
	faults := map[api.Errno]int{}
	for range 3000 {
		l := some(d)
		name, e := (model{linked(t, l)}).fault()
		faults[e]++
		if e == api.OK {
			laid(t, l)
		} else {
			wantFault(t, l, name, e)
		}
	}
	if faults[api.OK] < 300 || faults[api.ErrTwice] < 100 || faults[api.ErrLink] < 300 {
		t.Errorf("%v", faults)
	}
}

// As many classes as there may be, with as many fields and methods as there may be, all of one name.
func TestP101Most(t *testing.T) {
	var l []api.Class
	for i := range 64 {
		c := class(fmt.Sprintf("c%02d", i), fmt.Sprintf("c%02d", i+1))
		for k := range 256 {
			c.Fields = append(c.Fields, api.Field{Static: k%2 == 1, Name: fmt.Sprintf("%s%d", strings.Repeat("f", 60), k), Type: anInt})
			var args []api.Type
			for b := range 8 {
				args = append(args, []api.Type{ref("c00"), refs("c00")}[k>>b&1])
			}
			c.Methods = append(c.Methods, api.Method{Static: k%3 == 0, Name: "m", Proto: api.Proto{Args: args}})
		}
		l = append(l, c)
	}
	l[63].Super = "Throwable"
	x, name, e := layout.Of(linked(t, l))
	if e != api.OK {
		t.Fatalf("Of: %q, %d", name, e)
	}
	if len(x.Slots(8)) != 64*128 || len(x.Slots(71)) != 128 || len(x.Statics()) != 64*128 || x.Methods() != 64*256 {
		t.Errorf("%d, %d, %d, %d", len(x.Slots(8)), len(x.Slots(71)), len(x.Statics()), x.Methods())
	}
	last := l[0].Fields[254].Name
	if p, is := x.Field(8, last); p != (layout.Place{Class: 8, Index: 254, Slot: 63*128 + 127, Type: anInt}) || !is {
		t.Errorf("Field: %v, %v", p, is)
	}
	for k, m := range l[0].Methods {
		find, is := x.Find(20, m.Name, m.Proto)
		call, has := x.Call(20, m.Name, m.Proto)
		if find != 12*256+k || !is || has != (k%3 != 0) || has && call != find {
			t.Errorf("%d: %d, %v, %d, %v", k, find, is, call, has)
		}
	}
	l[0].Methods[255].Static = !l[0].Methods[255].Static
	if _, name, e := layout.Of(linked(t, l)); name != "c00" || e != api.ErrLink {
		t.Errorf("Of: %q, %d", name, e)
	}
}

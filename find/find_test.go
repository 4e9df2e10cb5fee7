package find_test

import (
	"slices"
	"strings"
	"testing"

	"warpbeam/api"
	"warpbeam/find"
	"warpbeam/layout"
	"warpbeam/link"
)

// exampleConstants are those of B in the chapter's examples.
func exampleConstants() api.Class {
	text := func(s string) api.Const { return api.Const{Kind: api.ConstText, Text: s} }
	return api.Class{Pool: []api.Const{
		{}, text("A"), {Kind: api.ConstClass, A: 1}, text("x"), text("I"), {Kind: api.ConstField, A: 2, B: 3, C: 4},
		text("m"), text("()V"), {Kind: api.ConstMethod, A: 2, B: 6, C: 7},
	}}
}

func TestP111Examples(t *testing.T) {
	s, _ := world(t, example())
	c := exampleConstants()
	wantClass(t, s, c, 2, 8, api.OK)
	wantClass(t, s, c, 1, 0, api.ErrPool)
}

func TestP112Examples(t *testing.T) {
	s, x := world(t, example())
	wantField(t, s, x, exampleConstants(), 5, layout.Place{Class: 8, Type: anInt}, api.OK)
}

func TestP113Examples(t *testing.T) {
	s, x := world(t, example())
	wantMethod(t, s, x, exampleConstants(), 8, find.Meant{Class: 8, Name: "m"}, api.OK)
	wantMethod(t, s, x, exampleConstants(), 5, find.Meant{}, api.ErrPool)
}

// Without a set that has classes there is nothing, whatever else is wrong.
func TestP111NoSet(t *testing.T) {
	for _, s := range []*link.Set{nil, {}} {
		for _, c := range []api.Class{{}, {Pool: kinds()}, exampleConstants()} {
			for n := -1; n <= len(c.Pool); n++ {
				wantClass(t, s, c, n, 0, api.ErrNil)
			}
		}
	}
}

func TestP111Class(t *testing.T) {
	s, _ := world(t, rich())
	var l constants
	for i := range s.Len() {
		l.class(s.Name(i))
	}
	for i := range s.Len() {
		wantClass(t, s, l.of(), l.class(s.Name(i)), i, api.OK)
	}
	for i, name := range []string{"Object", "Throwable", "Arith", "Null", "Bounds", "Cast", "Size", "Store", "A", "B", "C", "I", "J", "K", "L", "Z"} {
		wantClass(t, s, l.of(), l.class(name), i, api.OK)
	}
}

// The class that has the constants has no say in what they name, be it none.
func TestP111WhoseConstants(t *testing.T) {
	s, _ := world(t, rich())
	for _, name := range []string{"", "A", "I", "none", "Object"} {
		c := exampleConstants()
		c.Name, c.Super, c.Interface = name, "none", true
		wantClass(t, s, c, 2, 8, api.OK)
	}
}

func TestP111Kinds(t *testing.T) {
	s, _ := world(t, rich())
	c := api.Class{Pool: kinds()}
	for n, k := range c.Pool {
		if k.Kind == api.ConstClass {
			wantClass(t, s, c, n, 8, api.OK)
			continue
		}
		wantClass(t, s, c, n, 0, api.ErrPool)
	}
}

func TestP111NoPlace(t *testing.T) {
	s, _ := world(t, rich())
	for _, l := range [][]api.Const{nil, {}, {{}}, kinds(), exampleConstants().Pool} {
		for _, n := range append(noPlaces(len(l)), 0) {
			wantClass(t, s, api.Class{Pool: l}, n, 0, api.ErrPool)
		}
	}
}

// A constant of a class whose name is no text's place.
func TestP111NoText(t *testing.T) {
	s, _ := world(t, rich())
	for _, a := range []int{-1 << 63, -1, 0, 2, 3, 4, 99, 1<<63 - 1} {
		l := []api.Const{{}, {Kind: api.ConstText, Text: "A"}, {Kind: api.ConstInt, N: 1}, {Kind: api.ConstClass, A: a}}
		wantClass(t, s, api.Class{Pool: l}, 3, 0, api.ErrPool)
	}
}

// noNames are names that no class of rich has.
func noNames() []string {
	return []string{"", "none", "a", "AA", "A ", " A", "LA;", "[A", "object", "Objects", "Arit", "A\x00", "\xff", strings.Repeat("A", 65), strings.Repeat("A", 70000)}
}

func TestP111NoClass(t *testing.T) {
	s, _ := world(t, rich())
	for _, name := range noNames() {
		var l constants
		n := l.class(name)
		wantClass(t, s, l.of(), n, 0, api.ErrFind)
	}
	// What one set has another one has not.
	s, _ = world(t, example())
	var l constants
	n := l.class("C")
	wantClass(t, s, l.of(), n, 0, api.ErrFind)
}

// noLayouts are layouts that are none, and others' (of the same classes, too), beside a set.
func noLayouts(t *testing.T) []*layout.Layout {
	_, same := world(t, rich())
	_, other := world(t, example())
	_, empty := world(t, nil)
	return []*layout.Layout{nil, {}, same, other, empty}
}

func TestP112NoSet(t *testing.T) {
	for _, s := range []*link.Set{nil, {}} {
		for _, x := range noLayouts(t) {
			for n := -1; n <= len(kinds()); n++ {
				wantField(t, s, x, api.Class{Pool: kinds()}, n, layout.Place{}, api.ErrNil)
			}
		}
	}
}

func TestP112NoLayout(t *testing.T) {
	s, _ := world(t, rich())
	for _, x := range noLayouts(t) {
		for n := -1; n <= len(kinds()); n++ {
			wantField(t, s, x, api.Class{Pool: kinds()}, n, layout.Place{}, api.ErrNil)
		}
	}
}

func TestP112Kinds(t *testing.T) {
	s, x := world(t, rich())
	c := api.Class{Pool: kinds()}
	for n, k := range c.Pool {
		if k.Kind == api.ConstField {
			wantField(t, s, x, c, n, layout.Place{Class: 8, Type: anInt}, api.OK)
			continue
		}
		wantField(t, s, x, c, n, layout.Place{}, api.ErrPool)
	}
}

func TestP112NoPlace(t *testing.T) {
	s, x := world(t, rich())
	for _, l := range [][]api.Const{nil, {}, {{}}, kinds(), exampleConstants().Pool} {
		for _, n := range append(noPlaces(len(l)), 0) {
			wantField(t, s, x, api.Class{Pool: l}, n, layout.Place{}, api.ErrPool)
		}
	}
}

// A field whose class is no class's place, or whose name or type no text's.
func TestP112Unfit(t *testing.T) {
	s, x := world(t, rich())
	for _, k := range []api.Const{{A: 1, B: 3, C: 4}, {A: 5, B: 3, C: 4}, {A: 2, B: 2, C: 4}, {A: 2, B: 3, C: 5}, {A: 2, B: 3, C: -1}, {A: 2, B: 99, C: 4}, {A: 0, B: 3, C: 4}, {A: 9, B: 3, C: 4}} {
		k.Kind = api.ConstField
		c := exampleConstants()
		c.Pool = append(c.Pool, k)
		wantField(t, s, x, c, len(c.Pool)-1, layout.Place{}, api.ErrPool)
	}
}

func TestP112Field(t *testing.T) {
	s, x := world(t, rich())
	for _, k := range []struct {
		class, name, typ string
		want             layout.Place
	}{
		// Of the class itself.
		{"A", "x", "I", layout.Place{Class: 8, Index: 0, Slot: 0, Type: anInt}},
		{"A", "y", "J", layout.Place{Class: 8, Index: 1, Static: true, Slot: 0, Type: aLong}},
		{"A", "r", "LA;", layout.Place{Class: 8, Index: 2, Slot: 1, Type: ref("A")}},
		{"B", "x", "J", layout.Place{Class: 9, Index: 0, Slot: 2, Type: aLong}},
		{"B", "b", "[LB;", layout.Place{Class: 9, Index: 1, Slot: 3, Type: refs("B")}},
		{"I", "x", "I", layout.Place{Class: 11, Index: 1, Static: true, Slot: 2, Type: anInt}},
		{"K", "k", "[I", layout.Place{Class: 13, Index: 0, Static: true, Slot: 4, Type: ints}},
		// Of a class above, near and far.
		{"B", "r", "LA;", layout.Place{Class: 8, Index: 2, Slot: 1, Type: ref("A")}},
		{"C", "r", "LA;", layout.Place{Class: 8, Index: 2, Slot: 1, Type: ref("A")}},
		{"C", "y", "J", layout.Place{Class: 8, Index: 1, Static: true, Slot: 0, Type: aLong}},
		{"C", "x", "J", layout.Place{Class: 9, Index: 0, Slot: 2, Type: aLong}},
		{"C", "b", "[LB;", layout.Place{Class: 9, Index: 1, Slot: 3, Type: refs("B")}},
		// Of an interface, near and far.
		{"A", "i", "I", layout.Place{Class: 11, Index: 0, Static: true, Slot: 1, Type: anInt}},
		{"B", "j", "LI;", layout.Place{Class: 12, Index: 0, Static: true, Slot: 3, Type: ref("I")}},
		{"C", "j", "LI;", layout.Place{Class: 12, Index: 0, Static: true, Slot: 3, Type: ref("I")}},
		{"C", "k", "[I", layout.Place{Class: 13, Index: 0, Static: true, Slot: 4, Type: ints}},
		{"C", "i", "J", layout.Place{Class: 13, Index: 1, Static: true, Slot: 5, Type: aLong}},
		{"J", "i", "J", layout.Place{Class: 13, Index: 1, Static: true, Slot: 5, Type: aLong}},
		{"L", "k", "[I", layout.Place{Class: 13, Index: 0, Static: true, Slot: 4, Type: ints}},
		{"L", "j", "LI;", layout.Place{Class: 12, Index: 0, Static: true, Slot: 3, Type: ref("I")}},
	} {
		var l constants
		n := l.field(k.class, k.name, k.typ)
		wantField(t, s, x, l.of(), n, k.want, api.OK)
	}
}

// noTypes are texts that tell no type.
func noTypes() []string {
	return []string{"", "V", "i", "II", " I", "I ", "[", "[[I", "[V", "L;", "LA", "A;", "A", "LA;;", "LA;I", "L1;", "LA B;", "[L;", "()V", "L" + strings.Repeat("a", 65) + ";", "I\x00", "\xff"}
}

func TestP112NoType(t *testing.T) {
	s, x := world(t, rich())
	for _, typ := range noTypes() {
		for _, class := range []string{"A", "none", "Object"} {
			for _, name := range []string{"x", "none"} {
				var l constants
				n := l.field(class, name, typ)
				wantField(t, s, x, l.of(), n, layout.Place{}, api.ErrType)
			}
		}
	}
}

func TestP112NotThere(t *testing.T) {
	s, x := world(t, rich())
	for _, k := range [][3]string{
		// No such class.
		{"none", "x", "I"}, {"", "x", "I"}, {"a", "x", "I"}, {"LA;", "x", "I"}, {"AA", "x", "I"},
		// No such field: of a class further down, of one beside it, a method's name.
		{"A", "none", "I"}, {"A", "", "I"}, {"A", "X", "I"}, {"A", "x ", "I"}, {"A", "b", "[LB;"}, {"A", "m", "I"}, {"A", "j", "LI;"}, {"I", "y", "J"}, {"I", "k", "[I"}, {"K", "j", "LI;"}, {"L", "x", "I"}, {"Z", "x", "I"}, {"Object", "x", "I"}, {"Store", "x", "I"},
		// Of another Kind.
		{"A", "x", "J"}, {"A", "x", "[I"}, {"A", "x", "LA;"}, {"A", "y", "I"}, {"A", "y", "[J"}, {"A", "r", "[LA;"}, {"B", "b", "LB;"}, {"B", "b", "[I"}, {"K", "k", "I"}, {"K", "k", "[J"}, {"J", "j", "[LI;"},
		// Of another Name alone: of one above it, of one below it, of one that there is not.
		{"A", "r", "LObject;"}, {"A", "r", "LB;"}, {"A", "r", "LI;"}, {"A", "r", "La;"}, {"A", "r", "LAA;"}, {"A", "r", "Lnone;"}, {"B", "b", "[LA;"}, {"B", "b", "[LC;"}, {"B", "b", "[Lnone;"}, {"J", "j", "LJ;"}, {"B", "j", "LA;"},
		// The nearest one of that name has another type, one further up has that.
		{"B", "x", "I"}, {"C", "x", "I"}, {"C", "i", "I"}, {"B", "i", "I"},
	} {
		var l constants
		n := l.field(k[0], k[1], k[2])
		wantField(t, s, x, l.of(), n, layout.Place{}, api.ErrFind)
	}
	for _, class := range noNames() {
		var l constants
		n := l.field(class, "x", "I")
		wantField(t, s, x, l.of(), n, layout.Place{}, api.ErrFind)
	}
}

func TestP113NoSet(t *testing.T) {
	for _, s := range []*link.Set{nil, {}} {
		for _, x := range noLayouts(t) {
			for n := -1; n <= len(kinds()); n++ {
				wantMethod(t, s, x, api.Class{Pool: kinds()}, n, find.Meant{}, api.ErrNil)
			}
		}
	}
}

func TestP113NoLayout(t *testing.T) {
	s, _ := world(t, rich())
	for _, x := range noLayouts(t) {
		for n := -1; n <= len(kinds()); n++ {
			wantMethod(t, s, x, api.Class{Pool: kinds()}, n, find.Meant{}, api.ErrNil)
		}
	}
}

func TestP113Kinds(t *testing.T) {
	s, x := world(t, rich())
	c := api.Class{Pool: kinds()}
	for n, k := range c.Pool {
		if k.Kind == api.ConstMethod {
			wantMethod(t, s, x, c, n, find.Meant{Class: 8, Name: "m"}, api.OK)
			continue
		}
		wantMethod(t, s, x, c, n, find.Meant{}, api.ErrPool)
	}
}

func TestP113NoPlace(t *testing.T) {
	s, x := world(t, rich())
	for _, l := range [][]api.Const{nil, {}, {{}}, kinds(), exampleConstants().Pool} {
		for _, n := range append(noPlaces(len(l)), 0) {
			wantMethod(t, s, x, api.Class{Pool: l}, n, find.Meant{}, api.ErrPool)
		}
	}
}

// A method whose class is no class's place, or whose name or proto no text's.
func TestP113Unfit(t *testing.T) {
	s, x := world(t, rich())
	for _, k := range []api.Const{{A: 1, B: 6, C: 7}, {A: 8, B: 6, C: 7}, {A: 2, B: 2, C: 7}, {A: 2, B: 6, C: 5}, {A: 2, B: 6, C: -1}, {A: 2, B: 99, C: 7}, {A: 0, B: 6, C: 7}, {A: 9, B: 6, C: 7}} {
		k.Kind = api.ConstMethod
		c := exampleConstants()
		c.Pool = append(c.Pool, k)
		wantMethod(t, s, x, c, len(c.Pool)-1, find.Meant{}, api.ErrPool)
	}
}

func TestP113Method(t *testing.T) {
	s, x := world(t, rich())
	for _, k := range []struct {
		class, name, proto string
		want               find.Meant
	}{
		// Of the class itself.
		{"A", "m", "()V", find.Meant{Number: 0, Class: 8}},
		{"A", "main", "()V", find.Meant{Number: 1, Class: 8, Static: true}},
		{"A", "main", "(I)V", find.Meant{Number: 2, Class: 8, Static: true, Proto: ofInt}},
		{"A", "k", "(I)I", find.Meant{Number: 3, Class: 8, Proto: proto(anInt, anInt)}},
		{"B", "m", "()V", find.Meant{Number: 4, Class: 9}},
		{"C", "c", "(JLA;)[I", find.Meant{Number: 6, Class: 10, Proto: proto(ints, aLong, ref("A"))}},
		{"Z", "two", "()J", find.Meant{Number: 16, Class: 15, Proto: proto(aLong)}},
		{"Z", "two", "()I", find.Meant{Number: 17, Class: 15, Static: true, Proto: giving}},
		{"Z", "two", "()V", find.Meant{Number: 18, Class: 15, Static: true}},
		{"Z", "pair", "(LA;LA;[LB;)LA;", find.Meant{Number: 20, Class: 15, Proto: proto(ref("A"), ref("A"), ref("A"), refs("B"))}},
		// Of a class above, near and far.
		{"B", "main", "(I)V", find.Meant{Number: 2, Class: 9, Static: true, Proto: ofInt}},
		{"B", "k", "(I)I", find.Meant{Number: 3, Class: 9, Proto: proto(anInt, anInt)}},
		{"C", "m", "()V", find.Meant{Number: 4, Class: 10}},
		{"C", "s", "()V", find.Meant{Number: 5, Class: 10, Static: true}},
		{"C", "main", "()V", find.Meant{Number: 1, Class: 10, Static: true}},
		{"C", "k", "(I)I", find.Meant{Number: 3, Class: 10, Proto: proto(anInt, anInt)}},
		// Of an interface, near and far, named by a class.
		{"A", "f", "()V", find.Meant{Number: 8, Class: 8, Static: true}},
		{"B", "f", "()V", find.Meant{Number: 13, Class: 9, Static: true}},
		{"C", "f", "()V", find.Meant{Number: 13, Class: 10, Static: true}},
		{"C", "f", "()I", find.Meant{Number: 12, Class: 10, Static: true, Proto: giving}},
		// Named by an interface: its own, and of those above it.
		{"I", "k", "(I)I", find.Meant{Number: 7, Class: 11, Interface: true, Proto: proto(anInt, anInt)}},
		{"I", "f", "()V", find.Meant{Number: 8, Class: 11, Static: true, Interface: true}},
		{"J", "m", "()V", find.Meant{Number: 9, Class: 12, Interface: true}},
		{"J", "main", "()V", find.Meant{Number: 10, Class: 12, Static: true, Interface: true}},
		{"J", "f", "()I", find.Meant{Number: 12, Class: 12, Static: true, Interface: true, Proto: giving}},
		{"K", "m", "()V", find.Meant{Number: 11, Class: 13, Interface: true}},
		{"L", "m", "()V", find.Meant{Number: 9, Class: 14, Interface: true}},
		{"L", "main", "()V", find.Meant{Number: 10, Class: 14, Static: true, Interface: true}},
		{"L", "f", "()V", find.Meant{Number: 13, Class: 14, Static: true, Interface: true}},
	} {
		var l constants
		n := l.method(k.class, k.name, k.proto)
		k.want.Name = k.name
		wantMethod(t, s, x, l.of(), n, k.want, api.OK)
	}
}

// One that is static and one that is not, of one name and proto, in a class and its interfaces: what is answered is of the one that is meant.
func TestP113Beside(t *testing.T) {
	s, x := world(t, []api.Class{
		having(class("A", "B"), nil, plain("f", void)), class("B", "Object", "I"), class("C", "A", "J"),
		having(face("I"), nil, still("f", void)), having(face("J", "K"), nil, still("f", void)), having(face("K"), nil, empty("f", void)), face("L", "I", "K"), face("M", "K", "I"),
		having(class("N", "Object"), nil, still("f", void)), class("O", "N", "I"),
	})
	// A: f 0; I: f 1; J: f 2; K: f 3; N: f 4
	for _, want := range []find.Meant{
		{Number: 0, Class: 8}, {Number: 1, Class: 9, Static: true}, {Number: 0, Class: 10}, {Number: 1, Class: 11, Static: true, Interface: true},
		{Number: 2, Class: 12, Static: true, Interface: true}, {Number: 3, Class: 13, Interface: true}, {Number: 1, Class: 14, Static: true, Interface: true},
		{Number: 3, Class: 15, Interface: true}, {Number: 4, Class: 16, Static: true}, {Number: 4, Class: 17, Static: true},
	} {
		want.Name = "f"
		var l constants
		n := l.method(s.Name(want.Class), "f", "()V")
		wantMethod(t, s, x, l.of(), n, want, api.OK)
	}
}

func TestP113NoProto(t *testing.T) {
	s, x := world(t, rich())
	protos := []string{"()", "(V)V", "()VV", "(", ")V", "(I", "(I)", "()V ", " ()V", "(II", "([)V", "([[I)V", "(L;)V", "(LA)V", "()L1;", "(" + strings.Repeat("I", 17) + ")V", "(" + strings.Repeat("LA;", 70000) + ")V"}
	for _, p := range append(protos, "", "V", "I", "LA;", "[I", "m", "\xff") {
		for _, class := range []string{"A", "none", "Object"} {
			for _, name := range []string{"m", "none"} {
				var l constants
				n := l.method(class, name, p)
				wantMethod(t, s, x, l.of(), n, find.Meant{}, api.ErrType)
			}
		}
	}
}

func TestP113NotThere(t *testing.T) {
	s, x := world(t, rich())
	for _, k := range [][3]string{
		// No such class.
		{"none", "m", "()V"}, {"", "m", "()V"}, {"a", "m", "()V"}, {"LA;", "m", "()V"},
		// No such method: of a class further down, of one beside it, a field's name.
		{"A", "none", "()V"}, {"A", "", "()V"}, {"A", "M", "()V"}, {"A", "m ", "()V"}, {"A", "s", "()V"}, {"A", "x", "()V"}, {"B", "c", "(JLA;)[I"}, {"I", "m", "()V"}, {"K", "main", "()V"}, {"L", "k", "(I)I"}, {"Z", "m", "()V"}, {"Object", "m", "()V"}, {"Throwable", "go", "()V"}, {"Store", "m", "()V"},
		// With another proto: another Ret, other Args, more, fewer, in another order.
		{"A", "m", "()I"}, {"A", "m", "(I)V"}, {"A", "m", "()LA;"}, {"A", "main", "(J)V"}, {"A", "main", "(II)V"}, {"A", "main", "([I)V"}, {"A", "main", "(I)I"}, {"A", "k", "(I)V"}, {"A", "k", "()I"}, {"A", "k", "()V"},
		{"C", "c", "(LA;J)[I"}, {"C", "c", "(JLB;)[I"}, {"C", "c", "(JLObject;)[I"}, {"C", "c", "(J[LA;)[I"}, {"C", "c", "(JLnone;)[I"}, {"C", "c", "(JLA;)[J"}, {"C", "c", "(JLA;)V"}, {"C", "c", "(J)[I"},
		{"I", "f", "()I"}, {"A", "f", "()I"}, {"Z", "args", "()V"}, {"Z", "go", "()I"},
	} {
		var l constants
		n := l.method(k[0], k[1], k[2])
		wantMethod(t, s, x, l.of(), n, find.Meant{}, api.ErrFind)
	}
	for _, class := range noNames() {
		var l constants
		n := l.method(class, "m", "()V")
		wantMethod(t, s, x, l.of(), n, find.Meant{}, api.ErrFind)
	}
}

func TestP114NoSet(t *testing.T) {
	for _, s := range []*link.Set{nil, {}} {
		for _, x := range noLayouts(t) {
			wantEntry(t, s, x, "A", "main", 0, api.ErrNil)
			wantEntry(t, s, x, "none", "none", 0, api.ErrNil)
			wantEntry(t, s, x, "", "", 0, api.ErrNil)
		}
	}
}

func TestP114NoLayout(t *testing.T) {
	s, _ := world(t, rich())
	for _, x := range noLayouts(t) {
		wantEntry(t, s, x, "A", "main", 0, api.ErrNil)
		wantEntry(t, s, x, "none", "none", 0, api.ErrNil)
		wantEntry(t, s, x, "", "", 0, api.ErrNil)
	}
}

func TestP114Entry(t *testing.T) {
	s, x := world(t, rich())
	for _, k := range []struct {
		class, name string
		want        int
	}{
		{"A", "main", 1}, {"B", "s", 5}, {"I", "f", 8}, {"J", "main", 10}, {"K", "f", 12},
		// Behind one with arguments; behind one that is not static, and ahead of one with another Ret.
		{"Z", "go", 15}, {"Z", "two", 17},
	} {
		wantEntry(t, s, x, k.class, k.name, k.want, api.OK)
	}
}

// Of two without arguments the one that stands first in the class counts, whatever its Ret.
func TestP114First(t *testing.T) {
	first, second, third := still("e", giving), still("e", void), still("e", proto(ref("A")))
	for _, l := range [][]api.Method{{first, second, third}, {third, second, first}, {second, first}, {still("e", ofInt), third, first}, {plain("e", proto(aLong)), still("E", void), first, second}} {
		s, x := world(t, []api.Class{having(class("A", "Object"), nil, l...), having(class("$", "Object"), nil, plain("e", void), still("f", void))})
		at := slices.IndexFunc(l, func(m api.Method) bool { return m.Static && m.Name == "e" && len(m.Proto.Args) == 0 })
		wantEntry(t, s, x, "A", "e", 2+at, api.OK)
	}
}

func TestP114None(t *testing.T) {
	s, x := world(t, rich())
	for _, k := range [][2]string{
		// No such class.
		{"none", "main"}, {"", "main"}, {"a", "main"}, {"LA;", "main"},
		// No such method: none of that name at all, only above (classes and interfaces), only further down.
		{"A", "none"}, {"A", ""}, {"A", "Main"}, {"A", "main "}, {"A", "x"}, {"A", "y"}, {"B", "main"}, {"C", "main"}, {"C", "s"}, {"A", "s"}, {"A", "f"}, {"B", "f"}, {"J", "f"}, {"L", "main"}, {"L", "f"},
		// Not static; abstract; with arguments alone.
		{"A", "m"}, {"B", "m"}, {"J", "m"}, {"K", "m"}, {"I", "k"}, {"A", "k"}, {"C", "c"}, {"Z", "args"},
		// Of the built in ones, that have none.
		{"Object", "main"}, {"Object", ""}, {"Throwable", "go"}, {"Store", "main"},
	} {
		wantEntry(t, s, x, k[0], k[1], 0, api.ErrFind)
	}
	for _, name := range noNames() {
		wantEntry(t, s, x, name, "main", 0, api.ErrFind)
		wantEntry(t, s, x, "A", name, 0, api.ErrFind)
	}
	s, x = world(t, nil)
	wantEntry(t, s, x, "A", "main", 0, api.ErrFind)
	wantEntry(t, s, x, "Object", "main", 0, api.ErrFind)
}

// A class may have a name that is none, as link does not ask: an entry of it is found; a constant names it, too.
func TestP114OddName(t *testing.T) {
	s, x := world(t, []api.Class{having(class("", "Object"), nil, still("", void))})
	wantEntry(t, s, x, "", "", 0, api.OK)
	var l constants
	wantClass(t, s, api.Class{Pool: []api.Const{{}, {Kind: api.ConstText}, {Kind: api.ConstClass, A: 1}}}, 2, 8, api.OK)
	n := l.method("", "", "()V")
	wantMethod(t, s, x, l.of(), n, find.Meant{Class: 8, Static: true}, api.OK)
}

// Of several errors the first one is told: no set or layout, the constant, its type or proto, what there is not.
func TestP112WhichFirst(t *testing.T) {
	s, x := world(t, rich())
	for _, k := range []struct {
		class, name, text string
		e                 api.Errno
	}{
		{"A", "x", "I", api.OK}, {"A", "x", "", api.ErrType}, {"none", "x", "I", api.ErrFind}, {"none", "x", "", api.ErrType}, {"A", "none", "", api.ErrType}, {"none", "none", "", api.ErrType}, {"none", "none", "J", api.ErrFind}, {"A", "none", "J", api.ErrFind},
	} {
		var l constants
		n := l.field(k.class, k.name, k.text)
		want := layout.Place{}
		if k.e == api.OK {
			want = layout.Place{Class: 8, Type: anInt}
		}
		wantField(t, s, x, l.of(), n, want, k.e)
		wantField(t, nil, x, l.of(), n, layout.Place{}, api.ErrNil)
		wantField(t, s, nil, l.of(), n, layout.Place{}, api.ErrNil)
		// The same, as another kind of constant, and without the text of its name.
		for _, kind := range []int{api.ConstMethod, api.ConstClass, 0, 9} {
			c := api.Class{Pool: slices.Clone(l.l)}
			c.Pool[n].Kind = kind
			wantField(t, s, x, c, n, layout.Place{}, api.ErrPool)
		}
		c := api.Class{Pool: slices.Clone(l.l)}
		c.Pool[n].B = n
		wantField(t, s, x, c, n, layout.Place{}, api.ErrPool)
	}
}

func TestP113WhichFirst(t *testing.T) {
	s, x := world(t, rich())
	for _, k := range []struct {
		class, name, text string
		e                 api.Errno
	}{
		{"A", "m", "()V", api.OK}, {"A", "m", "V", api.ErrType}, {"none", "m", "()V", api.ErrFind}, {"none", "m", "V", api.ErrType}, {"A", "none", "V", api.ErrType}, {"none", "none", "V", api.ErrType}, {"none", "none", "()I", api.ErrFind}, {"A", "none", "()I", api.ErrFind},
	} {
		var l constants
		n := l.method(k.class, k.name, k.text)
		want := find.Meant{}
		if k.e == api.OK {
			want = find.Meant{Class: 8, Name: "m"}
		}
		wantMethod(t, s, x, l.of(), n, want, k.e)
		wantMethod(t, nil, x, l.of(), n, find.Meant{}, api.ErrNil)
		wantMethod(t, s, nil, l.of(), n, find.Meant{}, api.ErrNil)
		for _, kind := range []int{api.ConstField, api.ConstClass, 0, 9} {
			c := api.Class{Pool: slices.Clone(l.l)}
			c.Pool[n].Kind = kind
			wantMethod(t, s, x, c, n, find.Meant{}, api.ErrPool)
		}
		c := api.Class{Pool: slices.Clone(l.l)}
		c.Pool[n].B = n
		wantMethod(t, s, x, c, n, find.Meant{}, api.ErrPool)
	}
}

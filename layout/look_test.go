package layout_test

import (
	"slices"
	"testing"

	"warpbeam/api"
	"warpbeam/layout"
	"warpbeam/link"
)

// noNumbers are numbers of no class, where there are so many.
func noNumbers(size int) []int {
	return []int{-1 << 63, -1 << 32, -9, -1, size, size + 1, 99, 1 << 32, 1<<32 + 8, 1<<63 - 1}
}

func TestP102Examples(t *testing.T) {
	x := laid(t, example())
	if a, b := x.Slots(8), x.Slots(9); !slices.Equal(a, []api.Type{anInt}) || !slices.Equal(b, []api.Type{anInt, aLong}) {
		t.Errorf("Slots: %v, %v", a, b)
	}
	if p, is := x.Field(9, "x"); p != (layout.Place{Class: 8, Type: anInt}) || !is {
		t.Errorf("Field: %v, %v", p, is)
	}
	if p, is := x.Field(9, "z"); p != (layout.Place{Class: 9, Index: 1, Static: true, Type: anInt}) || !is {
		t.Errorf("Field: %v, %v", p, is)
	}
}

func TestP102Set(t *testing.T) {
	for _, l := range fitting() {
		s := linked(t, l)
		x, _, _ := layout.Of(s)
		if x.Set() != s {
			t.Errorf("%s: another set", brief(l))
		}
	}
}

// The classes of rich: B 8, C 9, D 10, I 11, J 12, K 13, L 14, Y 15, Z 16.
func TestP102Slots(t *testing.T) {
	x := laid(t, rich())
	b := []api.Type{anInt, anInt, ref("B"), aLong}
	for class, want := range map[int][]api.Type{16: b[:2], 8: b, 9: b, 10: append(slices.Clone(b), refs("D"), anInt), 11: nil, 12: nil, 13: nil, 14: nil, 15: nil} {
		if got := x.Slots(class); !slices.Equal(got, want) {
			t.Errorf("Slots(%d): %v; want %v", class, got, want)
		}
	}
	for class := range link.BuiltIn {
		if len(x.Slots(class)) != 0 {
			t.Errorf("Slots(%d): %v", class, x.Slots(class))
		}
	}
	for _, class := range noNumbers(17) {
		if len(x.Slots(class)) != 0 {
			t.Errorf("Slots(%d): %v", class, x.Slots(class))
		}
	}
}

func TestP102Statics(t *testing.T) {
	x := laid(t, rich())
	want := []api.Type{aLong, anInt, ref("J"), anInt, aLong, anInt, anInt, aLong, ref("L"), ref("K"), refs("Object")}
	if got := x.Statics(); !slices.Equal(got, want) {
		t.Errorf("Statics: %v; want %v", got, want)
	}
}

func TestP102Field(t *testing.T) {
	x := laid(t, rich())
	place := func(class, index, slot int, typ api.Type) layout.Place {
		return layout.Place{Class: class, Index: index, Slot: slot, Type: typ}
	}
	still := func(class, index, slot int, typ api.Type) layout.Place {
		return layout.Place{Class: class, Index: index, Static: true, Slot: slot, Type: typ}
	}
	for _, c := range []struct {
		class int
		name  string
		want  layout.Place
	}{
		{16, "x", place(16, 0, 0, anInt)}, {16, "z", still(16, 1, 10, refs("Object"))}, {16, "s", place(16, 2, 1, anInt)}, {16, "i", still(11, 0, 3, anInt)},
		{8, "b", place(8, 0, 2, ref("B"))}, {8, "x", place(8, 1, 3, aLong)}, {8, "s", place(16, 2, 1, anInt)}, {8, "i", still(11, 0, 3, anInt)},
		{9, "x", still(9, 1, 1, anInt)}, {9, "c", still(9, 0, 0, aLong)}, {9, "b", place(8, 0, 2, ref("B"))}, {9, "j", still(12, 0, 5, anInt)}, {9, "k", still(13, 0, 6, anInt)}, {9, "i", still(13, 1, 7, aLong)},
		{10, "x", place(10, 0, 4, refs("D"))}, {10, "d", place(10, 2, 5, anInt)}, {10, "s", still(10, 1, 2, ref("J"))}, {10, "l", still(14, 0, 8, ref("L"))}, {10, "k", still(14, 1, 9, ref("K"))}, {10, "i", still(13, 1, 7, aLong)}, {10, "z", still(16, 1, 10, refs("Object"))},
		{14, "i", still(13, 1, 7, aLong)}, {14, "s", still(11, 1, 4, aLong)}, {14, "j", still(12, 0, 5, anInt)}, {14, "k", still(14, 1, 9, ref("K"))}, {12, "i", still(13, 1, 7, aLong)}, {11, "s", still(11, 1, 4, aLong)},
	} {
		if p, is := x.Field(c.class, c.name); p != c.want || !is {
			t.Errorf("Field(%d, %s): %v, %v; want %v", c.class, c.name, p, is, c.want)
		}
	}
	for _, c := range []struct {
		class int
		name  string
	}{{16, "b"}, {16, "j"}, {8, "c"}, {8, "j"}, {9, "d"}, {9, "l"}, {10, "m"}, {10, ""}, {10, "X"}, {10, "x "}, {11, "x"}, {11, "k"}, {12, "l"}, {13, "j"}, {14, "x"}, {15, "x"}, {0, "x"}, {4, "x"}} {
		if p, is := x.Field(c.class, c.name); p != (layout.Place{}) || is {
			t.Errorf("Field(%d, %q): %v, %v", c.class, c.name, p, is)
		}
	}
	for _, class := range noNumbers(17) {
		if p, is := x.Field(class, "x"); p != (layout.Place{}) || is {
			t.Errorf("Field(%d, x): %v, %v", class, p, is)
		}
	}
}

// One of an interface is behind all of the classes above, also where the interface is the class's own.
func TestP102FieldOrder(t *testing.T) {
	l := []api.Class{
		class("A", "B", "I"), having(class("B", "C", "J"), []api.Field{field("b", anInt)}), having(class("C", "Object"), []api.Field{field("x", aLong)}),
		having(face("I", "K"), []api.Field{static("x", anInt)}), having(face("J"), []api.Field{static("y", anInt), static("b", anInt)}), having(face("K"), []api.Field{static("x", aLong), static("y", aLong)}),
	}
	x := laid(t, l)
	// A 8, B 9, C 10, I 11, J 12, K 13
	for name, want := range map[string]int{"x": 10, "b": 9, "y": 13} {
		if p, is := x.Field(8, name); p.Class != want || !is {
			t.Errorf("Field(A, %s): %v, %v", name, p, is)
		}
	}
	if p, is := x.Field(9, "y"); p.Class != 12 || !is {
		t.Errorf("Field(B, y): %v, %v", p, is)
	}
}

func TestP102Model(t *testing.T) {
	for _, l := range fitting() {
		wantModel(t, laid(t, l))
	}
	d := &dice{state: 8}
	for range 200 {
		wantModel(t, laid(t, someFit(d, 1+d.roll(8))))
	}
}

func TestP103Examples(t *testing.T) {
	x := laid(t, example())
	// A 8, B 9, I 10
	for _, c := range []struct {
		find       bool
		class, num int
	}{{true, 8, 0}, {true, 10, 2}, {false, 9, 1}, {false, 8, 0}, {true, 9, 1}} {
		ask := x.Call
		if c.find {
			ask = x.Find
		}
		if n, is := ask(c.class, "m", void); n != c.num || !is {
			t.Errorf("%d: %d, %v; want %d", c.class, n, is, c.num)
		}
	}
	if n, is := x.Call(10, "m", void); n != 0 || is {
		t.Errorf("Call of an interface: %d, %v", n, is)
	}
}

func TestP103Method(t *testing.T) {
	x := laid(t, rich())
	want := []where{{8, 0}, {8, 1}, {8, 2}, {9, 0}, {9, 1}, {9, 2}, {10, 0}, {10, 1}, {10, 2}, {11, 0}, {11, 1}, {12, 0}, {12, 1}, {13, 0}, {13, 1}, {13, 2}, {14, 0}, {16, 0}, {16, 1}, {16, 2}}
	if x.Methods() != len(want) {
		t.Errorf("Methods: %d", x.Methods())
	}
	for n, w := range want {
		if class, index, is := x.Method(n); class != w.class || index != w.index || !is {
			t.Errorf("Method(%d): %d, %d, %v; want %v", n, class, index, is, w)
		}
	}
	for _, n := range []int{-1 << 63, -20, -1, 20, 21, 1 << 32, 1<<63 - 1} {
		if class, index, is := x.Method(n); class != 0 || index != 0 || is {
			t.Errorf("Method(%d): %d, %d, %v", n, class, index, is)
		}
	}
}

func TestP103FindCall(t *testing.T) {
	x := laid(t, rich())
	// B: n 0, m 1, s 2; C: m 3, k 4, s 5; D: n 6, m (I) 7, d 8; I: m 9, i 10; J: m 11, f 12; K: k 13, f ()I 14, f 15; L: n 16; Z: m 17, i 18, z 19
	for _, c := range []struct {
		class      int
		name       string
		p          api.Proto
		find, call int
	}{
		{8, "n", giving, 0, 0}, {8, "m", void, 1, 1}, {8, "s", void, 2, -1}, {8, "i", ofInt, 18, 18}, {8, "z", void, 19, 19}, {8, "k", ofInt, -1, -1}, {8, "s", giving, -1, -1}, {8, "m", ofInt, -1, -1},
		{9, "n", giving, 0, 0}, {9, "m", void, 3, 3}, {9, "k", ofInt, 4, 4}, {9, "s", giving, 5, -1}, {9, "s", void, 2, -1}, {9, "f", void, 12, -1}, {9, "f", giving, 14, -1}, {9, "d", void, -1, -1},
		{10, "n", giving, 6, 6}, {10, "m", void, 3, 3}, {10, "m", ofInt, 7, 7}, {10, "d", void, 8, -1}, {10, "f", void, 15, -1}, {10, "f", giving, 14, -1}, {10, "z", void, 19, 19}, {10, "i", ofInt, 18, 18}, {10, "n", void, -1, -1},
		{11, "m", void, 9, -1}, {11, "i", ofInt, 10, -1}, {11, "k", ofInt, -1, -1}, {11, "z", void, -1, -1},
		{12, "m", void, 11, -1}, {12, "f", void, 12, -1}, {12, "f", giving, 14, -1}, {12, "k", ofInt, 13, -1}, {12, "i", ofInt, -1, -1},
		{13, "f", void, 15, -1}, {13, "f", giving, 14, -1}, {13, "m", void, -1, -1},
		{14, "n", giving, 16, -1}, {14, "m", void, 9, -1}, {14, "i", ofInt, 10, -1}, {14, "k", ofInt, 13, -1}, {14, "f", void, 15, -1}, {14, "f", ofInt, -1, -1},
		{15, "m", void, -1, -1}, {16, "m", void, 17, 17}, {16, "i", ofInt, 18, 18}, {16, "k", ofInt, -1, -1}, {16, "s", void, -1, -1},
		{0, "m", void, -1, -1}, {4, "m", void, -1, -1}, {1, "z", void, -1, -1}, {8, "", void, -1, -1}, {8, "M", void, -1, -1}, {8, "m ", void, -1, -1},
		{8, "m", api.Proto{Ret: api.Type{Name: "B"}}, -1, -1}, {8, "n", api.Proto{Ret: api.Type{Kind: 1, Name: "B"}}, -1, -1}, {8, "n", api.Proto{Ret: api.Type{Kind: -1}}, -1, -1}, {8, "m", api.Proto{Args: make([]api.Type, 1)}, -1, -1}, {8, "m", api.Proto{Args: []api.Type{}}, 1, 1}, {9, "k", api.Proto{Args: []api.Type{anInt, anInt}}, -1, -1}, {9, "k", api.Proto{Args: make([]api.Type, 500)}, -1, -1},
	} {
		wantBoth(t, x, c.class, c.name, c.p, c.find, c.call)
	}
	for _, class := range noNumbers(17) {
		wantBoth(t, x, class, "m", void, -1, -1)
	}
}

// wantBoth is what Find and Call are to answer; -1, if there is none.
func wantBoth(t *testing.T, x *layout.Layout, class int, name string, p api.Proto, find, call int) {
	t.Helper()
	n, is := x.Find(class, name, p)
	k, has := x.Call(class, name, p)
	if n != max(find, 0) || is != (find >= 0) || k != max(call, 0) || has != (call >= 0) {
		t.Errorf("%d, %q, %.80v: %d, %v, %d, %v; want %d, %d", class, name, p, n, is, k, has, find, call)
	}
}

// An abstract method that is meant, of an interface of which a class above has the method, is not what an object has.
func TestP103FarAbove(t *testing.T) {
	l := []api.Class{class("A", "B", "J"), class("B", "C"), with(class("C", "Object"), still("s", void), plain("f", void)), face("J", "K"), with(face("K"), still("s", giving), empty("f", void))}
	x := laid(t, l)
	// A 8, B 9, C 10, J 11, K 12; C: s 0, f 1; K: s 2, f 3
	wantBoth(t, x, 8, "f", void, 1, 1)
	wantBoth(t, x, 9, "f", void, 1, 1)
	wantBoth(t, x, 11, "f", void, 3, -1)
	wantBoth(t, x, 8, "s", void, 0, -1)
	wantBoth(t, x, 8, "s", giving, 2, -1)
	wantBoth(t, x, 9, "s", giving, -1, -1)
}

// A method of an interface's, static, beside one of a class's that is not: the class's is meant where it stands ahead, and had where it is on the way up.
func TestP103BesideInterfaces(t *testing.T) {
	l := []api.Class{
		with(class("A", "B"), plain("f", void)), class("B", "Object", "I"), class("C", "A", "J"),
		with(face("I"), still("f", void)), with(face("J", "K"), still("f", void)), with(face("K"), empty("f", void)), face("L", "I", "K"), face("M", "K", "I"),
	}
	x := laid(t, l)
	// A 8, B 9, C 10, I 11, J 12, K 13, L 14, M 15; A: f 0; I: f 1; J: f 2; K: f 3
	for class, want := range map[int][2]int{8: {0, 0}, 9: {1, -1}, 10: {0, 0}, 11: {1, -1}, 12: {2, -1}, 13: {3, -1}, 14: {1, -1}, 15: {3, -1}} {
		wantBoth(t, x, class, "f", void, want[0], want[1])
	}
}

func TestP103NoLayout(t *testing.T) {
	var zero layout.Layout
	for _, x := range []*layout.Layout{nil, {}, &zero} {
		if x.Set() != nil || len(x.Statics()) != 0 || x.Methods() != 0 {
			t.Errorf("%v, %v, %d", x.Set(), x.Statics(), x.Methods())
		}
		for _, i := range append(noNumbers(8), 0, 1, 7) {
			if class, index, is := x.Method(i); class != 0 || index != 0 || is || len(x.Slots(i)) != 0 {
				t.Errorf("%d: %d, %d, %v, %v", i, class, index, is, x.Slots(i))
			}
			for _, name := range []string{"", "m", "Object"} {
				if p, is := x.Field(i, name); p != (layout.Place{}) || is {
					t.Errorf("Field(%d, %q): %v, %v", i, name, p, is)
				}
				wantBoth(t, x, i, name, void, -1, -1)
			}
		}
	}
}

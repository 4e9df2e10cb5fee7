package link_test

import (
	"slices"
	"testing"

	"warpbeam/api"
	"warpbeam/link"
)

func TestP93Above(t *testing.T) {
	s, _ := linked(t, ways())
	// A 8, B 9, C 10, D 11, E 12, F 13, I 14, J 15, K 16, L 17, M 18, N 19.
	for i, want := range [][]int{
		{0}, {1, 0}, {2, 1, 0}, {3, 1, 0}, {4, 1, 0}, {5, 1, 0}, {6, 1, 0}, {7, 1, 0},
		{8, 0, 17, 16, 14, 15},
		{9, 8, 0, 14, 16, 18, 17, 15},
		{10, 9, 8, 0, 15, 14, 19, 18, 17, 16},
		{11, 9, 8, 0, 19, 18, 17, 16, 14, 15},
		{12, 4, 1, 0, 16, 14, 17, 15},
		{13, 12, 4, 1, 0, 16, 14, 17, 15},
		{14, 0}, {15, 0, 14}, {16, 0, 14}, {17, 0, 16, 14, 15}, {18, 0}, {19, 0, 18, 17, 16, 14, 15},
	} {
		if l := s.Above(i); !slices.Equal(l, want) {
			t.Errorf("Above(%s): %v; want %v", s.Name(i), l, want)
		}
	}
}

// An interface is followed by its own ones, ahead of the next one of the class; the classes above come ahead of all.
func TestP93AboveOrder(t *testing.T) {
	for _, c := range []struct {
		l    []api.Class
		of   string
		want []string
	}{
		{[]api.Class{class("A", "Object", "I", "J"), face("I", "K"), face("J"), face("K")}, "A", []string{"A", "Object", "I", "K", "J"}},
		{[]api.Class{class("A", "Object", "J", "I"), face("I", "K"), face("J"), face("K")}, "A", []string{"A", "Object", "J", "I", "K"}},
		{[]api.Class{class("A", "Object", "I", "J"), face("I"), face("J", "K", "I"), face("K", "I")}, "A", []string{"A", "Object", "I", "J", "K"}},
		{[]api.Class{class("A", "Object", "J", "I"), face("I"), face("J", "K", "L"), face("K", "L"), face("L", "I")}, "A", []string{"A", "Object", "J", "K", "L", "I"}},
		{[]api.Class{class("A", "B", "J"), class("B", "Object", "I"), face("I"), face("J")}, "A", []string{"A", "B", "Object", "J", "I"}},
		{[]api.Class{class("A", "B"), class("B", "C", "J"), class("C", "Throwable", "J", "I"), face("I"), face("J")}, "A", []string{"A", "B", "C", "Throwable", "Object", "J", "I"}},
		{[]api.Class{class("A", "B", "J"), class("B", "Object", "I", "J", "K"), face("I"), face("J", "K"), face("K")}, "A", []string{"A", "B", "Object", "J", "K", "I"}},
		{[]api.Class{face("A", "C", "B"), face("B", "D"), face("C", "B"), face("D")}, "A", []string{"A", "Object", "C", "B", "D"}},
	} {
		s, m := linked(t, c.l)
		if l := s.Above(m.number(c.of)); !slices.Equal(l, m.numbers(c.want)) {
			t.Errorf("%s: Above(%s): %v; want %q", brief(c.l), c.of, l, c.want)
		}
	}
}

func TestP93Model(t *testing.T) {
	for _, l := range fitting() {
		s, m := linked(t, l)
		wantModel(t, s, m)
	}
	d := &dice{state: 2}
	for range 400 {
		s, m := linked(t, someFit(d, 1+d.roll(12)))
		wantModel(t, s, m)
	}
}

func TestP93BelowCommon(t *testing.T) {
	s, m := linked(t, ways())
	for _, c := range []struct {
		a, b, common string
		below, above bool
	}{
		{"A", "A", "A", true, true}, {"I", "I", "I", true, true}, {"Object", "Object", "Object", true, true},
		{"B", "A", "A", true, false}, {"C", "A", "A", true, false}, {"C", "D", "B", false, false}, {"D", "A", "A", true, false},
		{"A", "E", "Object", false, false}, {"E", "F", "E", false, true}, {"F", "Bounds", "Bounds", true, false}, {"F", "Null", "Throwable", false, false}, {"F", "Throwable", "Throwable", true, false},
		{"Arith", "Store", "Throwable", false, false}, {"Arith", "Throwable", "Throwable", true, false}, {"Throwable", "Object", "Object", true, false}, {"A", "Throwable", "Object", false, false},
		{"A", "L", "Object", true, false}, {"A", "I", "Object", true, false}, {"A", "N", "Object", false, false}, {"D", "N", "Object", true, false}, {"F", "J", "Object", true, false}, {"F", "M", "Object", false, false},
		{"J", "I", "Object", true, false}, {"J", "K", "Object", false, false}, {"N", "I", "Object", true, false}, {"L", "Object", "Object", true, false}, {"I", "Throwable", "Object", false, false},
	} {
		a, b := m.number(c.a), m.number(c.b)
		if s.Below(a, b) != c.below || s.Below(b, a) != c.above {
			t.Errorf("%s, %s: %v, %v", c.a, c.b, s.Below(a, b), s.Below(b, a))
		}
		if want := m.number(c.common); s.Common(a, b) != want || s.Common(b, a) != want {
			t.Errorf("%s, %s: %d, %d; want %d", c.a, c.b, s.Common(a, b), s.Common(b, a), want)
		}
	}
}

// Ways that lead up are gone once: there are more of them than there is time.
func TestP93ManyWays(t *testing.T) {
	l := tight(64)
	s, name, e := link.New(l)
	if e != api.OK || name != "" {
		t.Fatalf("New: %q, %d", name, e)
	}
	for i := link.BuiltIn; i < s.Len(); i++ {
		want := []int{i, 0}
		for k := i + 1; k < s.Len(); k++ {
			want = append(want, k)
		}
		if got := s.Above(i); !slices.Equal(got, want) {
			t.Fatalf("Above(%d): %v", i, got)
		}
	}
	s, _ = linked(t, line(64))
	if got := s.Above(8); len(got) != 66 || got[63] != 71 || got[64] != 1 || got[65] != 0 || s.Common(8, 71) != 71 || s.Common(70, 9) != 70 {
		t.Errorf("Above(8): %v", got)
	}
}

func TestP93Types(t *testing.T) {
	for _, l := range [][]api.Class{nil, example(), {class("B", "A", "I"), class("A", "Arith"), class("C", "A"), face("I"), face("J", "I"), class("D", "Object", "J")}} {
		s, m := linked(t, l)
		wantTypes(t, s, m)
	}
}

func TestP93TypesByHand(t *testing.T) {
	s, _ := linked(t, example())
	ref := func(name string) api.Type { return api.Type{Kind: api.KindRef, Name: name} }
	refs := func(name string) api.Type { return api.Type{Kind: api.KindRefs, Name: name} }
	anInt, aLong, ints, longs := api.Type{Kind: api.KindInt}, api.Type{Kind: api.KindLong}, api.Type{Kind: api.KindInts}, api.Type{Kind: api.KindLongs}
	may := []api.Type{anInt, aLong, ints, longs, ref("A"), ref("Object"), ref("Store"), refs("J"), refs("Throwable")}
	mayNot := []api.Type{{}, {Kind: -1}, {Kind: 7}, {Kind: 7, Name: "A"}, {Kind: 0, Name: "A"}, {Kind: 1, Name: "A"}, {Kind: 2, Name: "A"}, {Kind: 4, Name: "A"}, {Kind: 5, Name: "Object"}, ref(""), refs(""), ref("X"), refs("X"), ref("a"), ref("LA;")}
	for _, typ := range may {
		if !s.MayType(typ) || s.BelowType(typ, typ) != (typ.Kind >= api.KindRef) || s.BelowType(typ, ref("Object")) != (typ.Kind >= api.KindRef) {
			t.Errorf("%v: %v, %v, %v", typ, s.MayType(typ), s.BelowType(typ, typ), s.BelowType(typ, ref("Object")))
		}
	}
	for _, typ := range mayNot {
		if s.MayType(typ) || s.BelowType(typ, typ) || s.BelowType(typ, ref("Object")) || s.BelowType(ref("A"), typ) {
			t.Errorf("%v: %v, %v", typ, s.MayType(typ), s.BelowType(typ, typ))
		}
	}
	for _, c := range []struct {
		a, b api.Type
		want bool
	}{
		{ref("B"), ref("A"), true}, {ref("A"), ref("B"), false}, {ref("B"), ref("I"), true}, {ref("J"), ref("I"), true}, {ref("I"), ref("J"), false}, {ref("A"), ref("I"), false}, {ref("I"), ref("Object"), true},
		{refs("B"), refs("A"), true}, {refs("A"), refs("B"), false}, {refs("B"), refs("I"), true}, {refs("B"), refs("Object"), true}, {refs("I"), refs("Object"), true},
		{refs("B"), ref("A"), false}, {ref("B"), refs("A"), false}, {refs("B"), ref("B"), false}, {ref("B"), refs("B"), false}, {ref("Object"), refs("Object"), false}, {refs("Object"), ref("Object"), true},
		{ints, longs, false}, {longs, ints, false}, {ints, refs("Object"), false}, {refs("Object"), ints, false}, {ints, ref("A"), false}, {ref("Object"), longs, false}, {longs, ref("Throwable"), false},
		{anInt, ints, false}, {anInt, aLong, false}, {ints, anInt, false}, {aLong, ref("Object"), false},
	} {
		if s.BelowType(c.a, c.b) != c.want {
			t.Errorf("BelowType(%v, %v): %v", c.a, c.b, !c.want)
		}
	}
}

// A set that is none knows nothing, not even what is built in.
func TestP93NoSet(t *testing.T) {
	var zero link.Set
	for _, s := range []*link.Set{nil, {}, &zero} {
		if s.Len() != 0 {
			t.Errorf("Len: %d", s.Len())
		}
		wantNone(t, s, []int{-1 << 63, -9, -1, 0, 1, 2, 7, 8, 9, 72, 1 << 32, 1<<63 - 1}, nil)
		for _, name := range append(builtIn(), "", "A", "none") {
			if n, is := s.Number(name); n != 0 || is {
				t.Errorf("Number(%q): %d, %v", name, n, is)
			}
			for _, kind := range kinds() {
				for _, typ := range []api.Type{{Kind: kind}, {Kind: kind, Name: name}} {
					if s.MayType(typ) || s.BelowType(typ, typ) || s.BelowType(typ, api.Type{Kind: api.KindRef, Name: "Object"}) {
						t.Errorf("%v: %v, %v", typ, s.MayType(typ), s.BelowType(typ, typ))
					}
				}
			}
		}
	}
}

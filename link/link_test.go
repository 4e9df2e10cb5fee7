package link_test

import (
	"fmt"
	"math"
	"slices"
	"strings"
	"testing"

	"warpbeam/api"
	"warpbeam/link"
)

// example are the classes of the chapter's examples.
func example() []api.Class {
	return []api.Class{class("A", "Object"), class("B", "A", "I"), face("I"), face("J", "I")}
}

// ways are classes whose interfaces come by more than one way.
func ways() []api.Class {
	return []api.Class{
		face("I"), face("J", "I"), face("K", "I"), face("L", "K", "J"), face("M"), face("N", "M", "L", "I"),
		class("A", "Object", "L"), class("B", "A", "I", "K", "M"), class("C", "B", "J", "N", "L"), class("D", "B", "N"), class("E", "Bounds", "K", "L"), class("F", "E"),
	}
}

// line are so many classes, each above the next one, the last name topmost.
func line(size int) []api.Class {
	var l []api.Class
	for i := range size {
		l = append(l, class(fmt.Sprintf("c%02d", i), fmt.Sprintf("c%02d", i+1)))
	}
	l[size-1].Super = "Throwable"
	return l
}

// tight are so many interfaces, each with all those of higher names: more ways lead up than can be gone one by one.
func tight(size int) []api.Class {
	var l []api.Class
	for i := range size {
		var above []string
		for k := i + 1; k < size; k++ {
			above = append(above, fmt.Sprintf("i%02d", k))
		}
		l = append(l, face(fmt.Sprintf("i%02d", i), above...))
	}
	return l
}

// plain are so many classes under Object.
func plain(size int) []api.Class {
	var l []api.Class
	for i := range size {
		l = append(l, class(fmt.Sprintf("c%d", i), "Object"))
	}
	return l
}

// fitting are classes that fit, few and many.
func fitting() [][]api.Class {
	l := [][]api.Class{
		nil, {}, {class("A", "Object")}, {class("A", "Store")}, {face("I")}, example(), ways(), line(20), tight(6), plain(64),
		{class("a", "A"), class("A", "Object"), class("_", "$"), class("$", "AA"), class("AA", "Zz"), class("Zz", "Throwable"), class("A0", "a"), class("Objects", "Object"), class("object", "Objects")},
		{class("X", "Arith"), class("Y", "X"), class("Z", "Arith"), class("V", "Null"), class("W", "Throwable")},
	}
	d := &dice{state: 9}
	for size := range 14 {
		l = append(l, someFit(d, size), someFit(d, size))
	}
	return l
}

func TestP91Examples(t *testing.T) {
	s, name, e := link.New(example())
	if s == nil || name != "" || e != api.OK {
		t.Fatalf("New: %q, %d", name, e)
	}
	a, isA := s.Number("A")
	j, isJ := s.Number("J")
	if a != 8 || !isA || j != 11 || !isJ || s.Name(9) != "B" {
		t.Errorf("%d, %d, %q", a, j, s.Name(9))
	}
	if l := s.Above(9); !slices.Equal(l, []int{9, 8, 0, 10}) {
		t.Errorf("Above(9): %v", l)
	}
	if l := s.Above(11); !slices.Equal(l, []int{11, 0, 10}) {
		t.Errorf("Above(11): %v", l)
	}
	if s.Common(9, 8) != 8 || s.Common(9, 11) != 0 || !s.Below(9, 10) || s.Below(10, 9) {
		t.Errorf("%d, %d, %v, %v", s.Common(9, 8), s.Common(9, 11), s.Below(9, 10), s.Below(10, 9))
	}
	if s, name, e := link.New([]api.Class{class("A", "B"), class("B", "A")}); s != nil || name != "A" || e != api.ErrCycle {
		t.Errorf("New of a cycle: %v, %q, %d", s, name, e)
	}
}

func TestP91HowMany(t *testing.T) {
	for _, size := range []int{0, 1, 2, 63, 64} {
		s, _ := linked(t, plain(size))
		if s.Len() != 8+size {
			t.Errorf("%d classes: Len %d", size, s.Len())
		}
	}
	for _, size := range []int{65, 66, 128, 1000} {
		wantFault(t, plain(size), "", api.ErrLimit)
		wantFault(t, make([]api.Class, size), "", api.ErrLimit)
		wantFault(t, slices.Repeat([]api.Class{class("Object", "none", "none")}, size), "", api.ErrLimit)
	}
	wantFault(t, slices.Repeat([]api.Class{class("A", "Object")}, 64), "A", api.ErrTwice)
}

func TestP91Twice(t *testing.T) {
	for _, name := range builtIn() {
		wantFault(t, []api.Class{class(name, "Object")}, name, api.ErrTwice)
		wantFault(t, []api.Class{class(name, "Throwable")}, name, api.ErrTwice)
		wantFault(t, []api.Class{face(name)}, name, api.ErrTwice)
		wantFault(t, []api.Class{class("A", "Object"), class(name, name), class("z", "Object")}, name, api.ErrTwice)
		linked(t, []api.Class{class(name+"s", name), class(strings.ToLower(name), name)})
	}
	for _, size := range []int{2, 3, 64} {
		for _, name := range []string{"A", "a", "_", strings.Repeat("n", 64)} {
			wantFault(t, slices.Repeat([]api.Class{class(name, "Object")}, size), name, api.ErrTwice)
		}
	}
	// Those of one name need not be alike, nor stand side by side.
	wantFault(t, []api.Class{class("A", "B"), face("B"), class("C", "none"), face("A", "B")}, "A", api.ErrTwice)
	wantFault(t, []api.Class{class("z", "Object"), class("A", "Object"), class("z", "A"), class("B", "Object"), class("z", "z")}, "z", api.ErrTwice)
	wantFault(t, []api.Class{class("A", "Object"), class("z", "Object"), class("B", "Object"), class("A", "Object"), class("Z", "Object"), class("B", "Object")}, "A", api.ErrTwice)
	wantFault(t, []api.Class{class("Store", "Object"), class("B", "Object"), class("Arith", "Object"), class("C", "Object")}, "Arith", api.ErrTwice)
	wantFault(t, []api.Class{class("Store", "Object"), class("B", "Object"), class("B", "Object"), class("Arith", "Object")}, "Arith", api.ErrTwice)
	wantFault(t, []api.Class{class("Store", "Object"), class("B", "Object"), class("B", "Object"), class("Null", "Object")}, "B", api.ErrTwice)
}

func TestP91NamesNoClass(t *testing.T) {
	for _, name := range noNames(model{names: []string{"A", "I", "J"}}) {
		for _, l := range [][]api.Class{
			{class("A", name), face("I"), face("J")},
			{class("A", "Object", name, "I", "J"), face("I"), face("J")},
			{class("A", "Object", "I", name, "J"), face("I"), face("J")},
			{class("A", "Object", "I", "J", name), face("I"), face("J")},
			{class("A", "Object", name), face("I"), face("J")},
			{class("A", "Object"), face("I", name), face("J")},
			{class("A", "Object"), face("I", "J", name), face("J")},
			{class("A", "Object"), face("I"), {Name: "J", Super: name, Interface: true}},
		} {
			wantFault(t, l, name, api.ErrLink)
		}
	}
	wantFault(t, []api.Class{{Name: "A"}}, "", api.ErrLink)
	wantFault(t, []api.Class{{Name: "A", Interface: true}}, "", api.ErrLink)
	wantFault(t, []api.Class{class("A", "a")}, "a", api.ErrLink)
	// The Super comes ahead of the interfaces, these in order, and all names of a class ahead of those of the next one.
	wantFault(t, []api.Class{class("A", "z", "y", "x")}, "z", api.ErrLink)
	wantFault(t, []api.Class{class("A", "Object", "y", "x")}, "y", api.ErrLink)
	wantFault(t, []api.Class{class("A", "Object", "y", "Object", "x")}, "y", api.ErrLink)
	wantFault(t, []api.Class{class("A", "Object", "x"), class("B", "b", "a")}, "x", api.ErrLink)
	wantFault(t, []api.Class{class("B", "Object", "x"), class("A", "Object", "z"), class("a", "y")}, "z", api.ErrLink)
}

func TestP91UnfitSuper(t *testing.T) {
	for _, super := range builtIn() {
		linked(t, []api.Class{class("A", super)})
		i := face("I")
		i.Super = super
		if super != "Object" {
			wantFault(t, []api.Class{i}, "I", api.ErrLink)
			continue
		}
		linked(t, []api.Class{i})
	}
	wantFault(t, []api.Class{class("A", "I"), face("I")}, "A", api.ErrLink)
	wantFault(t, []api.Class{class("A", "Object"), class("Z", "I"), face("I")}, "Z", api.ErrLink)
	wantFault(t, []api.Class{class("A", "I", "I"), face("I")}, "A", api.ErrLink)
	for _, super := range []string{"A", "J", "I"} {
		wantFault(t, []api.Class{class("A", "Object"), {Name: "I", Super: super, Interface: true}, face("J")}, "I", api.ErrLink)
	}
	// That of the class of the lowest name is told, be it the one kind or the other.
	wantFault(t, []api.Class{class("B", "I"), face("I"), {Name: "C", Super: "Null", Interface: true}}, "B", api.ErrLink)
	wantFault(t, []api.Class{class("B", "I"), face("I"), {Name: "A", Super: "Null", Interface: true}}, "A", api.ErrLink)
}

func TestP91UnfitInterfaces(t *testing.T) {
	for _, name := range append(builtIn(), "A", "B") {
		for _, l := range [][]string{{name}, {name, "I", "J"}, {"I", name, "J"}, {"I", "J", name}} {
			wantFault(t, []api.Class{class("A", "Object", l...), class("B", "Object"), face("I"), face("J")}, "A", api.ErrLink)
			wantFault(t, []api.Class{class("A", "Object"), class("B", "Object"), face("I"), face("J"), face("K", l...)}, "K", api.ErrLink)
		}
	}
	for _, l := range [][]string{{"I", "I"}, {"I", "J", "I"}, {"J", "I", "I"}, {"I", "I", "J"}, {"J", "I", "K", "J"}, {"I", "I", "I"}} {
		wantFault(t, []api.Class{class("A", "Object", l...), face("I"), face("J"), face("K")}, "A", api.ErrLink)
		wantFault(t, []api.Class{class("A", "Object"), face("I"), face("J"), face("K"), face("L", l...)}, "L", api.ErrLink)
	}
	wantFault(t, []api.Class{class("A", "Object", slices.Repeat([]string{"I"}, 100000)...), face("I")}, "A", api.ErrLink)
	// Two classes may name the same one, and one may name what it has by another one.
	linked(t, []api.Class{class("A", "Object", "I", "J"), class("B", "A", "I"), class("C", "Object", "J", "I"), face("I"), face("J", "I")})
	wantFault(t, []api.Class{class("C", "Object", "I", "I"), class("B", "Object", "C"), face("I")}, "B", api.ErrLink)
	wantFault(t, []api.Class{class("B", "Object", "I", "I"), class("C", "Object", "B"), face("I")}, "B", api.ErrLink)
}

func TestP91Cycles(t *testing.T) {
	wantFault(t, []api.Class{class("A", "A")}, "A", api.ErrCycle)
	wantFault(t, []api.Class{face("I", "I")}, "I", api.ErrCycle)
	wantFault(t, []api.Class{face("I", "J"), face("J", "I")}, "I", api.ErrCycle)
	wantFault(t, []api.Class{face("I", "M", "J"), face("J", "M", "K", "N"), face("K", "N", "I"), face("M", "N"), face("N")}, "I", api.ErrCycle)
	for _, size := range []int{2, 3, 5, 64} {
		l := line(size)
		l[size-1].Super = l[0].Name
		wantFault(t, l, "c00", api.ErrCycle)
		slices.Reverse(l)
		wantFault(t, l, "c00", api.ErrCycle)
		l = tight(size)
		l[size-1].Interfaces = []string{l[0].Name}
		wantFault(t, l, "i00", api.ErrCycle)
		l[size-1].Interfaces = []string{l[size/2].Name}
		wantFault(t, l, l[size/2].Name, api.ErrCycle)
	}
	// The way up to a cycle is none.
	wantFault(t, []api.Class{class("A", "B"), class("B", "C"), class("C", "C")}, "C", api.ErrCycle)
	wantFault(t, []api.Class{class("A", "B"), class("B", "C"), class("C", "D"), class("D", "C")}, "C", api.ErrCycle)
	wantFault(t, []api.Class{class("A", "B"), class("B", "D"), class("D", "C"), class("C", "D")}, "C", api.ErrCycle)
	wantFault(t, []api.Class{class("A", "Object", "I"), face("I", "J"), face("J", "K"), face("K", "J")}, "J", api.ErrCycle)
	wantFault(t, []api.Class{class("A", "Throwable", "J"), class("B", "A"), face("I", "J", "K"), face("K"), face("J", "J")}, "J", api.ErrCycle)
	// By the ones above and by interfaces, side by side: the lowest name is told.
	wantFault(t, []api.Class{class("A", "B", "I"), class("B", "C", "I"), class("C", "B", "I"), face("I", "I")}, "B", api.ErrCycle)
	wantFault(t, []api.Class{class("x", "y", "I"), class("y", "x"), class("A", "x"), face("I", "J"), face("J", "I")}, "I", api.ErrCycle)
	wantFault(t, []api.Class{class("A", "B"), class("B", "B"), class("C", "Object"), face("D", "D")}, "B", api.ErrCycle)
	wantFault(t, []api.Class{class("A", "E"), class("E", "E"), class("C", "Object"), face("D", "D")}, "D", api.ErrCycle)
	// Two ways that lead to one are no cycle.
	linked(t, ways())
	linked(t, tight(6))
}

// Of several errors the one that is looked for first is told, whichever class has it.
func TestP91WhichFirst(t *testing.T) {
	faults := []struct {
		l     func(p string) []api.Class // their names begin so
		about string                     // what stands behind that in the name that is told
		e     api.Errno
	}{
		{func(p string) []api.Class { return []api.Class{class(p, "Object"), class(p, "Object")} }, "", api.ErrTwice},
		{func(p string) []api.Class { return []api.Class{class(p, p+"none")} }, "none", api.ErrLink},
		{func(p string) []api.Class { return []api.Class{face(p + "I"), class(p, p+"I")} }, "", api.ErrLink},
		{func(p string) []api.Class { return []api.Class{class(p, "Object", "Object")} }, "", api.ErrLink},
		{func(p string) []api.Class { return []api.Class{class(p, p)} }, "", api.ErrCycle},
	}
	for i, first := range faults {
		wantFault(t, first.l("p"), "p"+first.about, first.e)
		for _, p := range []string{"a", "zz"} {
			wantFault(t, append(first.l("z"), first.l(p)...), min("z", p)+first.about, first.e)
			for _, then := range faults[i+1:] {
				wantFault(t, append(then.l(p), first.l("z")...), "z"+first.about, first.e)
				wantFault(t, append(first.l("z"), then.l(p)...), "z"+first.about, first.e)
			}
		}
	}
	// All in one class: what is mended lets the next one be told.
	c := class("Null", "none", "I", "I", "A")
	i := face("I")
	l := func() []api.Class { return []api.Class{class("A", "A"), c, i} }
	wantFault(t, l(), "Null", api.ErrTwice)
	c.Name = "0"
	wantFault(t, l(), "none", api.ErrLink)
	c.Super = "I"
	wantFault(t, l(), "0", api.ErrLink)
	c.Super = "0"
	wantFault(t, l(), "0", api.ErrLink)
	c.Interfaces = []string{"I", "A"}
	wantFault(t, l(), "0", api.ErrLink)
	c.Interfaces = []string{"I"}
	wantFault(t, l(), "0", api.ErrCycle)
	c.Super = "Object"
	wantFault(t, l(), "A", api.ErrCycle)
}

func TestP91Many(t *testing.T) {
	d := &dice{state: 1}
	found := map[api.Errno]int{}
	for range 20000 {
		l := some(d)
		_, wantName, wantE := newModel(l)
		s, name, e := link.New(l)
		if name != wantName || e != wantE || (s != nil) != (e == api.OK) {
			t.Fatalf("New(%s): %q, %d; want %q, %d", brief(l), name, e, wantName, wantE)
		}
		found[e]++
	}
	for _, e := range []api.Errno{api.OK, api.ErrTwice, api.ErrLink, api.ErrCycle} {
		if found[e] < 500 {
			t.Errorf("%d is told %d times", e, found[e])
		}
	}
}

func TestP92BuiltIn(t *testing.T) {
	numbers := []int{link.Object, link.Throwable, link.Arith, link.Null, link.Bounds, link.Cast, link.Size, link.Store}
	if !slices.Equal(numbers, []int{0, 1, 2, 3, 4, 5, 6, 7}) || link.BuiltIn != 8 {
		t.Errorf("%v, %d", numbers, link.BuiltIn)
	}
	for _, l := range fitting() {
		s, _ := linked(t, l)
		for i, name := range builtIn() {
			n, is := s.Number(name)
			c, isClass := s.Class(i)
			if s.Name(i) != name || n != i || !is || isClass || !same(c, api.Class{}) || len(s.Interfaces(i)) != 0 || s.IsInterface(i) {
				t.Errorf("%d: %q, %d, %v, %s, %v, %v, %v", i, s.Name(i), n, is, show(c), isClass, s.Interfaces(i), s.IsInterface(i))
			}
			if want := []int{-1, 0, 1, 1, 1, 1, 1, 1}[i]; s.Super(i) != want {
				t.Errorf("Super(%d): %d; want %d", i, s.Super(i), want)
			}
		}
	}
}

func TestP92Each(t *testing.T) {
	for _, l := range fitting() {
		s, m := linked(t, l)
		wantEach(t, s, m)
	}
	s, _ := linked(t, ways())
	for i, want := range [][]int{8: {17}, 9: {14, 16, 18}, 10: {15, 19, 17}, 11: {19}, 12: {16, 17}, 13: nil, 14: nil, 15: {14}, 16: {14}, 17: {16, 15}, 18: nil, 19: {18, 17, 14}} {
		if l := s.Interfaces(i); !slices.Equal(l, want) || s.IsInterface(i) != (i >= 14) {
			t.Errorf("%d: %v, %v", i, l, s.IsInterface(i))
		}
	}
}

// Numbers go by the bytes of the names: capitals, then _, then small letters; a beginning comes first.
func TestP92Rising(t *testing.T) {
	rising := []string{"$", "$a", "A", "A0", "AA", "A_", "Aa", "Arit", "Ariths", "B", "Objects", "Z", "_", "__", "a", "a0", "object", "z"}
	var l []api.Class
	for _, name := range rising {
		l = append(l, class(name, "Object"))
	}
	d := &dice{state: 3}
	for range 50 {
		s, _ := linked(t, shuffled(d, l))
		for i, name := range rising {
			if n, is := s.Number(name); n != 8+i || !is || s.Name(8+i) != name {
				t.Errorf("%s: %d, %v, %q", name, n, is, s.Name(8+i))
			}
		}
	}
}

func TestP92Others(t *testing.T) {
	for _, l := range fitting() {
		s, m := linked(t, l)
		size := s.Len()
		wantNone(t, s, []int{-1, -2, -8, math.MinInt, size, size + 1, size + 8, 1000, 1 << 32, 1<<32 + 8, math.MaxInt}, []int{0, 1, 7, size - 1})
		for _, name := range noNames(m) {
			if n, is := s.Number(name); n != 0 || is {
				t.Errorf("Number(%q): %d, %v", name, n, is)
			}
		}
		if s.Name(size-1) == "" || len(s.Above(size-1)) == 0 || !s.Below(size-1, size-1) || s.Common(size-1, size-1) != size-1 {
			t.Errorf("the last one, %d, is none", size-1)
		}
	}
}

// What a class has is told as it was handed in, be it such as may be or not.
func TestP92AsHandedIn(t *testing.T) {
	c := rich()
	s, _ := linked(t, []api.Class{c, face("I"), class("A", "Object")})
	if got, is := s.Class(10); !same(got, rich()) || !is {
		t.Errorf("%s, %v", show(got), is)
	}
	if got, is := s.Class(8); !same(got, class("A", "Object")) || !is {
		t.Errorf("%s, %v", show(got), is)
	}
	d := &dice{state: 5}
	for range 20 {
		l := []api.Class{rich(), face("I"), class("A", "Object"), rich(), class("b", "Rich")}
		l[3].Name, l[3].Pool, l[3].Super = "Q", nil, "b"
		s, _ := linked(t, shuffled(d, l))
		for i, name := range []string{"A", "I", "Q", "Rich", "b"} {
			want := l[slices.IndexFunc(l, func(c api.Class) bool { return c.Name == name })]
			if got, is := s.Class(8 + i); !same(got, want) || !is {
				t.Errorf("%s: %s, %v", name, show(got), is)
			}
		}
	}
}

// Texts that are no names are not looked at: New asks for no more than its checks.
func TestP92AnyName(t *testing.T) {
	for _, name := range []string{"\x00", "\xFF", "a b", "1", "[I", "\u20AC", strings.Repeat("n", 65), strings.Repeat("n", 100000)} {
		s, _ := linked(t, []api.Class{class(name, "Null", "I;"), face("I;")})
		i, is := s.Number(name)
		if !is || s.Name(i) != name || s.Super(i) != link.Null || len(s.Interfaces(i)) != 1 {
			t.Errorf("%.20q: %d, %v", name, i, is)
		}
	}
}

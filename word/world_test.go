package word_test

import (
	"fmt"
	"slices"
	"testing"

	"warpbeam/api"
	"warpbeam/link"
	"warpbeam/word"
)

var (
	top  = api.Word{}
	one  = api.Word{Kind: api.WordInt}
	long = api.Word{Kind: api.WordLong}
	more = api.Word{Kind: api.WordMore}
	null = api.Word{Kind: api.WordNull}

	ints   = of(api.Type{Kind: api.KindInts})
	longs  = of(api.Type{Kind: api.KindLongs})
	object = ref("Object")
)

// of, ref and refs are words of a reference: of a type, to an object of a class, to an array of a class's.
func of(t api.Type) api.Word         { return api.Word{Kind: api.WordRef, Type: t} }
func ref(name string) api.Word       { return of(api.Type{Kind: api.KindRef, Name: name}) }
func refs(name string) api.Word      { return of(api.Type{Kind: api.KindRefs, Name: name}) }
func l(words ...api.Word) []api.Word { return words }

// locals and stack are frames of such words alone.
func locals(words ...api.Word) api.Frame { return api.Frame{Locals: words} }
func stack(words ...api.Word) api.Frame  { return api.Frame{Stack: words} }

// times is a list of so many words.
func times(n int, words ...api.Word) []api.Word { return slices.Repeat(words, n) }

// class and face are a class and an interface.
func class(name, super string, interfaces ...string) api.Class {
	return api.Class{Name: name, Super: super, Interfaces: interfaces}
}

func face(name string, interfaces ...string) api.Class {
	return api.Class{Name: name, Super: "Object", Interface: true, Interfaces: interfaces}
}

// example are the classes of the chapter's examples.
func example() []api.Class {
	return []api.Class{class("A", "Object"), class("B", "A", "I"), class("C", "A"), face("I")}
}

// rich are classes near and far from one another: below A stand B and C, below B stand D and below that E, below C stands F; G stands beside A; T stands below Arith, U below Throwable; J has I, K stands for itself.
func rich() []api.Class {
	return []api.Class{
		class("A", "Object"), class("B", "A", "I"), class("C", "A", "I"), class("D", "B", "J"), class("E", "D"), class("F", "C", "K"),
		class("G", "Object", "K"), class("T", "Arith"), class("U", "Throwable", "I"), face("I"), face("J", "I"), face("K"),
	}
}

// linked is the set of classes that fit.
func linked(t *testing.T, classes []api.Class) *link.Set {
	t.Helper()
	s, name, e := link.New(classes)
	if e != api.OK {
		t.Fatalf("New(%.1000v): %q, %d", classes, name, e)
	}
	return s
}

// noSets are sets that are none.
func noSets() []*link.Set { return []*link.Set{nil, {}} }

// names are those of a set's classes.
func names(s *link.Set) []string {
	var all []string
	for i := range s.Len() {
		all = append(all, s.Name(i))
	}
	return all
}

// mayWords are all words that may be, where there are classes of these names.
func mayWords(names []string) []api.Word {
	all := l(top, one, long, more, null, ints, longs)
	for _, name := range names {
		all = append(all, ref(name), refs(name))
	}
	return all
}

// noKinds are numbers of no kind of words; some of them would be one, if they were cut.
func noKinds() []int {
	return []int{-1 << 63, -1 << 32, -3, -1, 6, 7, 8, 256 + 1, 256 + 5, 1<<32 + 1, 1<<32 + 5, 1<<63 - 1}
}

// noWords are words that may not be: of no kind, with a type where none may stand, of a type that is none, or no reference, or names no class, or one where it may not.
func noWords() []api.Word {
	var all []api.Word
	for _, kind := range noKinds() {
		all = append(all, api.Word{Kind: kind}, api.Word{Kind: kind, Type: object.Type}, of(api.Type{Kind: kind + 1}), of(api.Type{Kind: kind + 1, Name: "Object"}))
	}
	for kind := api.WordTop; kind < api.WordRef; kind++ {
		for _, t := range []api.Type{object.Type, ints.Type, {Kind: api.KindInt}, {Kind: api.KindLong}, {Kind: -1}, {Name: "Object"}} {
			all = append(all, api.Word{Kind: kind, Type: t})
		}
	}
	for _, name := range []string{"", "none", "a", "LA;", "[A", "object", "Object ", "A\x00", "\xff"} {
		all = append(all, ref(name), refs(name))
	}
	for _, name := range []string{"A", "Object", " "} {
		for _, kind := range []int{api.KindVoid, api.KindInt, api.KindLong, api.KindInts, api.KindLongs} {
			all = append(all, of(api.Type{Kind: kind, Name: name}))
		}
	}
	return append(all, of(api.Type{}), of(api.Type{Kind: api.KindInt}), of(api.Type{Kind: api.KindLong}))
}

// noTypes are types that may not be, of other kinds than those of an int and a long.
func noTypes() []api.Type {
	all := []api.Type{{}, {Name: "A"}, {Kind: -1}, {Kind: 7}}
	for _, w := range noWords() {
		if w.Kind == api.WordRef && w.Type.Kind != api.KindInt && w.Type.Kind != api.KindLong {
			all = append(all, w.Type)
		}
	}
	return all
}

// types are those that may be, where there are classes of these names.
func types(names []string) []api.Type {
	all := []api.Type{{Kind: api.KindInt}, {Kind: api.KindLong}}
	for _, w := range mayWords(names) {
		if w.Kind == api.WordRef {
			all = append(all, w.Type)
		}
	}
	return all
}

// wantMerge tells to what words come together, in each order.
func wantMerge(t *testing.T, s *link.Set, a, b, want api.Word) {
	t.Helper()
	if w := word.Merge(s, a, b); w != want {
		t.Errorf("Merge(%v, %v): %v; want %v", a, b, w, want)
	}
	if w := word.Merge(s, b, a); w != want {
		t.Errorf("Merge(%v, %v): %v; want %v", b, a, w, want)
	}
}

// wantFrames tells to what frames come together, in each order.
func wantFrames(t *testing.T, s *link.Set, a, b, want api.Frame) {
	t.Helper()
	for _, k := range [][2]api.Frame{{a, b}, {b, a}} {
		if f, ok := word.Frames(s, k[0], k[1]); !ok || !slices.Equal(f.Locals, want.Locals) || !slices.Equal(f.Stack, want.Stack) {
			t.Errorf("Frames(%s, %s): %s, %v; want %s", said(k[0]), said(k[1]), said(f), ok, said(want))
		}
	}
}

// wantApart tells that frames can't come together, in either order.
func wantApart(t *testing.T, s *link.Set, a, b api.Frame) {
	t.Helper()
	for _, k := range [][2]api.Frame{{a, b}, {b, a}} {
		if f, ok := word.Frames(s, k[0], k[1]); ok || len(f.Locals) != 0 || len(f.Stack) != 0 {
			t.Errorf("Frames(%s, %s): %s, %v", said(k[0]), said(k[1]), said(f), ok)
		}
	}
}

func wantFits(t *testing.T, s *link.Set, w api.Word, typ api.Type, want bool) {
	t.Helper()
	if is := word.Fits(s, w, typ); is != want {
		t.Errorf("Fits(%v, %v): %v", w, typ, is)
	}
}

func wantMay(t *testing.T, s *link.Set, f api.Frame, want bool) {
	t.Helper()
	if is := word.May(s, f); is != want {
		t.Errorf("May(%s): %v", said(f), is)
	}
}

// wantMayBoth is wantMay of a list as locals, and as words of the stack.
func wantMayBoth(t *testing.T, s *link.Set, words []api.Word, want bool) {
	t.Helper()
	wantMay(t, s, locals(words...), want)
	wantMay(t, s, stack(words...), want)
}

// said is a frame as a short text.
func said(f api.Frame) string { return fmt.Sprintf("%.300s", fmt.Sprintf("%v; %v", f.Locals, f.Stack)) }

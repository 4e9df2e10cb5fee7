package word_test

import (
	"slices"
	"strings"
	"testing"

	"warpbeam/api"
	"warpbeam/link"
	"warpbeam/word"
)

func wantOf(t *testing.T, typ api.Type, want ...api.Word) {
	t.Helper()
	if got := word.Of(typ); !slices.Equal(got, want) {
		t.Errorf("Of(%v): %v; want %v", typ, got, want)
	}
}

// A type's Kind alone tells; a name stays with a reference, whether it may be there or not.
func TestP121Of(t *testing.T) {
	for _, name := range []string{"", "A", "Object", "none", "\xff", strings.Repeat("a", 70)} {
		wantOf(t, api.Type{Kind: api.KindVoid, Name: name})
		wantOf(t, api.Type{Kind: api.KindInt, Name: name}, one)
		wantOf(t, api.Type{Kind: api.KindLong, Name: name}, long, more)
		for _, kind := range []int{api.KindRef, api.KindInts, api.KindLongs, api.KindRefs} {
			typ := api.Type{Kind: kind, Name: name}
			wantOf(t, typ, api.Word{Kind: api.WordRef, Type: typ})
		}
		for _, kind := range []int{-1 << 63, -1 << 32, -3, -1, 7, 8, 256 + 1, 1<<32 + 2, 1<<32 + 3, 1<<63 - 1} {
			wantOf(t, api.Type{Kind: kind, Name: name})
		}
	}
}

func wantSame(t *testing.T, a, b api.Frame, want bool) {
	t.Helper()
	if word.Same(a, b) != want || word.Same(b, a) != want {
		t.Errorf("Same(%s, %s): %v, %v; want %v", said(a), said(b), word.Same(a, b), word.Same(b, a), want)
	}
}

func TestP121Same(t *testing.T) {
	a := api.Frame{Locals: l(one, long, more, null, ref("A")), Stack: l(refs("A"), ints)}
	b := api.Frame{Locals: l(one, long, more, null, ref("A")), Stack: l(refs("A"), ints)}
	wantSame(t, a, b, true)
	for i := range b.Locals {
		for _, w := range append(mayWords([]string{"A", "B"}), noWords()...) {
			c := api.Frame{Locals: slices.Clone(b.Locals), Stack: b.Stack}
			c.Locals[i] = w
			wantSame(t, a, c, w == a.Locals[i])
		}
	}
	for i := range b.Stack {
		for _, w := range append(mayWords([]string{"A", "B"}), noWords()...) {
			c := api.Frame{Locals: b.Locals, Stack: slices.Clone(b.Stack)}
			c.Stack[i] = w
			wantSame(t, a, c, w == a.Stack[i])
		}
	}
}

// Of one word the type counts as a whole, be it where none may stand.
func TestP121SameTypes(t *testing.T) {
	for _, w := range append(mayWords([]string{"A"}), noWords()...) {
		wantSame(t, locals(w), locals(w), true)
		wantSame(t, stack(w), stack(w), true)
		other := w
		other.Type.Name += "x"
		wantSame(t, locals(w), locals(other), false)
		wantSame(t, stack(w), stack(other), false)
		other = w
		other.Type.Kind ^= 1
		wantSame(t, locals(w), locals(other), false)
		wantSame(t, stack(w), stack(other), false)
	}
}

func TestP121SameLengths(t *testing.T) {
	wantSame(t, api.Frame{}, api.Frame{}, true)
	wantSame(t, api.Frame{}, api.Frame{Locals: l(), Stack: []api.Word{}}, true)
	wantSame(t, api.Frame{Locals: l(one)}, api.Frame{Locals: l(one), Stack: []api.Word{}}, true)
	wantSame(t, api.Frame{Stack: l(one)}, api.Frame{Locals: []api.Word{}, Stack: l(one)}, true)
	wantSame(t, api.Frame{}, locals(top), false)
	wantSame(t, api.Frame{}, stack(top), false)
	wantSame(t, locals(one), stack(one), false)
	wantSame(t, locals(one), locals(one, one), false)
	wantSame(t, locals(one), locals(one, top), false)
	wantSame(t, stack(one), stack(one, top), false)
	wantSame(t, api.Frame{Locals: l(one, one), Stack: l(one)}, api.Frame{Locals: l(one), Stack: l(one, one)}, false)
	// Frames of more words than a frame may have are held against each other, too.
	wantSame(t, locals(times(1000, one)...), locals(times(1000, one)...), true)
	wantSame(t, locals(times(1000, one)...), locals(append(times(999, one), top)...), false)
}

func TestP122Examples(t *testing.T) {
	s := linked(t, example())
	wantMerge(t, s, ref("B"), ref("C"), ref("A"))
	wantMerge(t, s, ref("B"), null, ref("B"))
	wantMerge(t, s, ref("B"), ref("I"), object)
	wantMerge(t, s, refs("B"), refs("C"), refs("A"))
	wantMerge(t, s, refs("B"), ints, object)
	wantMerge(t, s, one, null, top)
}

func TestP122EachTwoKinds(t *testing.T) {
	s := linked(t, example())
	kinds := l(top, one, long, more, null, ref("B"))
	for i, a := range kinds {
		for k, b := range kinds {
			want := top
			switch {
			case i == k:
				want = a
			case i >= 4 && k >= 4:
				want = ref("B")
			}
			wantMerge(t, s, a, b, want)
		}
	}
}

// A word that may not be comes with any to WordTop, with itself and with none, too.
func TestP122NoWords(t *testing.T) {
	for _, classes := range [][]api.Class{nil, example(), rich()} {
		s := linked(t, classes)
		words := append(mayWords(names(s)), noWords()...)
		for _, a := range noWords() {
			for _, b := range words {
				wantMerge(t, s, a, b, top)
			}
		}
	}
}

// What one set's classes are is not what another one's are.
func TestP122OtherSet(t *testing.T) {
	s := linked(t, nil)
	for _, name := range []string{"A", "B", "I"} {
		for _, w := range l(ref(name), refs(name)) {
			wantMerge(t, s, w, w, top)
			wantMerge(t, s, w, null, top)
			wantMerge(t, s, w, object, top)
		}
	}
}

func TestP122Classes(t *testing.T) {
	s := linked(t, rich())
	for _, k := range [][3]string{
		// One class, one above the other, near and far.
		{"A", "A", "A"}, {"Object", "Object", "Object"}, {"B", "A", "A"}, {"E", "A", "A"}, {"E", "D", "D"}, {"E", "Object", "Object"}, {"T", "Arith", "Arith"}, {"T", "Throwable", "Throwable"}, {"F", "A", "A"},
		// Side by side, near and far.
		{"B", "C", "A"}, {"D", "C", "A"}, {"E", "F", "A"}, {"B", "F", "A"}, {"E", "G", "Object"}, {"A", "G", "Object"}, {"T", "U", "Throwable"}, {"T", "A", "Object"},
		// A class and an interface, be it one that it has; two interfaces, be one above the other; of one and itself alone it is told.
		{"B", "I", "Object"}, {"E", "J", "Object"}, {"A", "K", "Object"}, {"I", "J", "Object"}, {"J", "K", "Object"}, {"I", "Object", "Object"}, {"I", "I", "I"}, {"J", "J", "J"}, {"U", "I", "Object"},
		// Both have one interface.
		{"F", "G", "Object"}, {"C", "U", "Object"},
		// Built in.
		{"Throwable", "Object", "Object"}, {"Arith", "Throwable", "Throwable"}, {"Arith", "Null", "Throwable"}, {"Bounds", "Store", "Throwable"}, {"Cast", "Size", "Throwable"}, {"Size", "Size", "Size"}, {"Store", "T", "Throwable"}, {"Null", "A", "Object"}, {"Bounds", "I", "Object"},
	} {
		wantMerge(t, s, ref(k[0]), ref(k[1]), ref(k[2]))
		wantMerge(t, s, refs(k[0]), refs(k[1]), refs(k[2]))
		wantMerge(t, s, ref(k[0]), refs(k[1]), object)
		wantMerge(t, s, refs(k[0]), ref(k[1]), object)
	}
}

func TestP122Arrays(t *testing.T) {
	s := linked(t, rich())
	wantMerge(t, s, ints, ints, ints)
	wantMerge(t, s, longs, longs, longs)
	wantMerge(t, s, ints, longs, object)
	for _, name := range names(s) {
		for _, w := range l(ints, longs) {
			wantMerge(t, s, w, ref(name), object)
			wantMerge(t, s, w, refs(name), object)
		}
		wantMerge(t, s, refs(name), ref(name), object)
		wantMerge(t, s, refs(name), refs(name), refs(name))
		wantMerge(t, s, refs(name), refs("Object"), refs("Object"))
	}
}

func TestP122Null(t *testing.T) {
	s := linked(t, rich())
	for _, w := range mayWords(names(s)) {
		want := top
		if w.Kind >= api.WordNull {
			want = w
		}
		wantMerge(t, s, null, w, want)
	}
}

func TestP122Model(t *testing.T) {
	for _, classes := range worlds() {
		wantModel(t, linked(t, classes), newModel(classes))
	}
}

// With a set that is none words are the same, or come to WordTop, whether they may be or not.
func TestP122NoSet(t *testing.T) {
	words := append(mayWords([]string{"Object", "A", "B", "Arith"}), noWords()...)
	for _, s := range noSets() {
		for _, a := range words {
			for _, b := range words {
				if a == b {
					wantMerge(t, s, a, b, a)
				} else {
					wantMerge(t, s, a, b, top)
				}
			}
		}
	}
}

func TestP124FitsExamples(t *testing.T) {
	s := linked(t, example())
	wantFits(t, s, ref("B"), ref("I").Type, true)
	wantFits(t, s, object, ref("I").Type, false)
	wantFits(t, s, null, ref("I").Type, true)
}

func TestP124FitsEachKind(t *testing.T) {
	s := linked(t, example())
	fit := map[api.Word][]int{one: {api.KindInt}, long: {api.KindLong}, null: {api.KindRef, api.KindInts, api.KindLongs, api.KindRefs}, ref("A"): {api.KindRef}, ints: {api.KindInts}, longs: {api.KindLongs}, refs("A"): {api.KindRefs}}
	for _, w := range l(top, one, long, more, null, ref("A"), ints, longs, refs("A")) {
		for kind := -1; kind <= 8; kind++ {
			typ := api.Type{Kind: kind}
			if kind == api.KindRef || kind == api.KindRefs {
				typ.Name = "A"
			}
			wantFits(t, s, w, typ, slices.Contains(fit[w], kind))
		}
	}
}

func TestP124FitsNearAndFar(t *testing.T) {
	s := linked(t, rich())
	for _, k := range [][2]string{{"A", "A"}, {"B", "A"}, {"E", "A"}, {"E", "D"}, {"E", "Object"}, {"B", "I"}, {"D", "I"}, {"E", "I"}, {"E", "J"}, {"F", "K"}, {"J", "I"}, {"I", "Object"}, {"I", "I"}, {"T", "Arith"}, {"T", "Throwable"}, {"U", "I"}, {"Store", "Throwable"}} {
		wantFits(t, s, ref(k[0]), ref(k[1]).Type, true)
		wantFits(t, s, refs(k[0]), refs(k[1]).Type, true)
		wantFits(t, s, refs(k[0]), ref(k[1]).Type, k[1] == "Object")
		wantFits(t, s, ref(k[0]), refs(k[1]).Type, false)
		if k[0] != k[1] {
			wantFits(t, s, ref(k[1]), ref(k[0]).Type, false)
			wantFits(t, s, refs(k[1]), refs(k[0]).Type, false)
		}
	}
	for _, k := range [][2]string{{"B", "C"}, {"E", "F"}, {"B", "J"}, {"E", "K"}, {"A", "I"}, {"I", "J"}, {"J", "K"}, {"Object", "I"}, {"Object", "A"}, {"Arith", "Null"}, {"T", "U"}, {"A", "Throwable"}} {
		wantFits(t, s, ref(k[0]), ref(k[1]).Type, false)
		wantFits(t, s, refs(k[0]), refs(k[1]).Type, false)
	}
}

func TestP124FitsArrays(t *testing.T) {
	s := linked(t, rich())
	for _, a := range l(ints, longs, refs("A"), refs("Object"), refs("I")) {
		wantFits(t, s, a, object.Type, true)
		wantFits(t, s, a, ref("Throwable").Type, false)
		wantFits(t, s, a, ref("I").Type, false)
		for _, b := range l(ints, longs) {
			wantFits(t, s, a, b.Type, a == b)
			wantFits(t, s, b, a.Type, a == b)
		}
		wantFits(t, s, object, a.Type, false)
		wantFits(t, s, a, refs("Object").Type, a.Type.Kind == api.KindRefs)
	}
}

// A word that may not be fits nothing; nothing fits a type that is none, not even no reference.
func TestP124FitsNone(t *testing.T) {
	s := linked(t, example())
	all := append(types(names(s)), noTypes()...)
	for _, w := range noWords() {
		for _, typ := range all {
			wantFits(t, s, w, typ, false)
		}
	}
	for _, w := range append(mayWords(names(s)), noWords()...) {
		for _, typ := range noTypes() {
			wantFits(t, s, w, typ, false)
		}
	}
}

// Of an int's and a long's type the Kind alone counts.
func TestP124FitsNames(t *testing.T) {
	for _, s := range append(noSets(), linked(t, example())) {
		for _, w := range mayWords([]string{"A", "Object"}) {
			wantFits(t, s, w, api.Type{Kind: api.KindInt, Name: "A"}, w == one)
			wantFits(t, s, w, api.Type{Kind: api.KindLong, Name: "A"}, w == long)
		}
	}
}

// Of a set that is none there are ints and longs, but no references.
func TestP124FitsNoSet(t *testing.T) {
	all := append(types([]string{"A", "Object"}), noTypes()...)
	for _, s := range noSets() {
		for _, w := range append(mayWords([]string{"A", "Object"}), noWords()...) {
			for _, typ := range all {
				wantFits(t, s, w, typ, w == one && typ.Kind == api.KindInt || w == long && typ.Kind == api.KindLong)
			}
		}
	}
}

// A set of the classes that are built in alone is a set.
func TestP124FitsBuiltIn(t *testing.T) {
	s := linked(t, nil)
	wantFits(t, s, null, object.Type, true)
	wantFits(t, s, ref("Arith"), ref("Throwable").Type, true)
	wantFits(t, s, null, ref("A").Type, false)
	wantFits(t, s, ref("A"), object.Type, false)
	if s.Len() != link.BuiltIn {
		t.Errorf("there are %d classes", s.Len())
	}
}

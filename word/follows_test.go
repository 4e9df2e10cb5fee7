package word_test

import (
	"testing"

	"warpbeam/api"
	"warpbeam/link"
	"warpbeam/word"
)

// some are the words that may be of a set, and some that may not.
func some(s *link.Set) []api.Word {
	all := append(mayWords(names(s)), ref("none"), refs("none"), of(api.Type{}), of(api.Type{Kind: api.KindInts, Name: "A"}))
	return append(all, api.Word{Kind: -1}, api.Word{Kind: 6}, api.Word{Kind: api.WordInt, Type: object.Type}, api.Word{Kind: api.WordNull, Type: ints.Type})
}

// sets are sets of classes that fit, and such as are none.
func sets(t *testing.T) []*link.Set {
	all := noSets()
	for _, classes := range worlds() {
		all = append(all, linked(t, classes))
	}
	return all
}

func TestP126EachOrder(t *testing.T) {
	for _, s := range sets(t) {
		words := some(s)
		for _, a := range words {
			for _, b := range words {
				if x, y := word.Merge(s, a, b), word.Merge(s, b, a); x != y {
					t.Errorf("%v, %v: %v, %v", a, b, x, y)
				}
			}
		}
	}
}

func TestP126Itself(t *testing.T) {
	for _, s := range sets(t) {
		for _, a := range mayWords(names(s)) {
			if w := word.Merge(s, a, a); w != a {
				t.Errorf("Merge(%v, %v): %v", a, a, w)
			}
		}
	}
}

// smaller are sets of few classes, so that each three words may be gone through.
func smaller(t *testing.T) []*link.Set {
	all := append(noSets(), linked(t, example()), linked(t, rich()))
	d := &dice{state: 17}
	for range 8 {
		all = append(all, linked(t, rolled(d, 2+d.roll(5))))
	}
	return all
}

func TestP126Three(t *testing.T) {
	for _, s := range smaller(t) {
		words := some(s)
		for _, a := range words {
			for _, b := range words {
				ab := word.Merge(s, a, b)
				for _, c := range words {
					if x, y := word.Merge(s, ab, c), word.Merge(s, a, word.Merge(s, b, c)); x != y && s.Len() > 0 {
						t.Errorf("%v, %v, %v: %v, %v", a, b, c, x, y)
					}
				}
			}
		}
	}
}

// So it is of a set that is none.
func TestP126ThreeNoSet(t *testing.T) {
	words := l(top, one, long, more, null, ints, object, ref("A"), refs("A"))
	for _, s := range noSets() {
		for _, a := range words {
			for _, b := range words {
				for _, c := range words {
					if x, y := word.Merge(s, word.Merge(s, a, b), c), word.Merge(s, a, word.Merge(s, b, c)); x != y {
						t.Errorf("%v, %v, %v: %v, %v", a, b, c, x, y)
					}
				}
			}
		}
	}
}

// So it is with frames: whichever two come first, all come to the same, or can't.
func TestP126Frames(t *testing.T) {
	d := &dice{state: 23}
	met := 0
	for _, s := range sets(t)[2:] {
		for range 60 {
			locals, stack := d.roll(5), d.roll(3)
			a, b, c := rolledFrame(d, s, locals, stack), rolledFrame(d, s, locals, stack), rolledFrame(d, s, locals, stack)
			wantFrames(t, s, a, a, a)
			ab, isAB := word.Frames(s, a, b)
			bc, isBC := word.Frames(s, b, c)
			x, isX := word.Frames(s, ab, c)
			y, isY := word.Frames(s, a, bc)
			if isX, isY = isX && isAB, isY && isBC; isX != isY || isX && !word.Same(x, y) {
				t.Errorf("%s, %s, %s: %s, %v; %s, %v", said(a), said(b), said(c), said(x), isX, said(y), isY)
			}
			if isX {
				met++
			}
		}
	}
	if met < 200 {
		t.Errorf("%d come together", met)
	}
}

func TestP127Both(t *testing.T) {
	for _, s := range smaller(t) {
		words, fit := some(s), 0
		all := append(types(names(s)), api.Type{}, ref("none").Type, api.Type{Kind: api.KindInt, Name: "A"}, api.Type{Kind: 7})
		for _, a := range words {
			for _, b := range words {
				w := word.Merge(s, a, b)
				for _, typ := range all {
					if !word.Fits(s, w, typ) {
						continue
					}
					fit++
					if !word.Fits(s, a, typ) || !word.Fits(s, b, typ) {
						t.Errorf("Fits of %v and %v, %v: %v, %v; of %v it is", a, b, typ, word.Fits(s, a, typ), word.Fits(s, b, typ), w)
					}
				}
			}
		}
		if fit < 3 {
			t.Errorf("%d fit", fit)
		}
	}
}

// What words come to is known of both: with each it comes to itself; and what frames come to may be.
func TestP127Known(t *testing.T) {
	for _, s := range sets(t)[2:] {
		words := mayWords(names(s))
		for _, a := range words {
			for _, b := range words {
				w := word.Merge(s, a, b)
				wantMerge(t, s, a, w, w)
				wantMerge(t, s, b, w, w)
			}
		}
	}
	d := &dice{state: 29}
	for _, s := range sets(t)[2:] {
		for range 60 {
			locals, stack := d.roll(6), d.roll(3)
			a, b := rolledFrame(d, s, locals, stack), rolledFrame(d, s, locals, stack)
			if f, ok := word.Frames(s, a, b); ok {
				wantMay(t, s, f, true)
				wantFrames(t, s, a, f, f)
				wantFrames(t, s, b, f, f)
			}
		}
	}
}

// changes is how often a frame changes to which others come; those that can't are left out.
func changes(s *link.Set, f api.Frame, others []api.Frame) int {
	n := 0
	for _, other := range others {
		if g, ok := word.Frames(s, f, other); ok && !word.Same(f, g) {
			n++
			f = g
		}
	}
	return n
}

func TestP128Rolled(t *testing.T) {
	d := &dice{state: 31}
	for _, s := range sets(t)[2:] {
		for range 10 {
			locals, stack := d.roll(4), d.roll(3)
			var others []api.Frame
			for range 100 {
				others = append(others, rolledFrame(d, s, locals, stack))
			}
			most := (3 + s.Len()) * (locals + stack)
			if n := changes(s, others[0], others); n > most {
				t.Errorf("%d changes of %d words, with %d classes", n, locals+stack, s.Len())
			}
		}
	}
}

// As often as can be: from no reference, by arrays of classes that stand one above the other, one step at a time, to nothing that is known.
func TestP128Slowest(t *testing.T) {
	classes := []api.Class{class("A00", "Store")}
	for len(classes) < api.MaxClasses {
		last := classes[len(classes)-1].Name
		classes = append(classes, class("A"+string(rune('0'+len(classes)/10))+string(rune('0'+len(classes)%10)), last))
	}
	s := linked(t, classes)
	var steps []api.Word
	for i, _ := s.Number("A63"); i >= 0; i = s.Super(i) {
		steps = append(steps, refs(s.Name(i)))
	}
	steps = append(steps, ints, one)
	for _, words := range []int{1, 2, 20} {
		f := locals(times(words, null)...)
		var others []api.Frame
		for at := range words {
			for _, w := range steps {
				other := times(words, null)
				other[at] = w
				others = append(others, locals(other...))
			}
		}
		n := changes(s, f, others)
		if want := len(steps) * words; n != want || n > (3+s.Len())*words {
			t.Errorf("%d changes of %d words; want %d", n, words, want)
		}
	}
}

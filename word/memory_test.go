package word_test

import (
	"reflect"
	"slices"
	"strings"
	"testing"
	"unsafe"

	"warpbeam/api"
	"warpbeam/link"
	"warpbeam/word"
)

// told is all that a set tells.
func told(s *link.Set) []any {
	var all []any
	for i := range s.Len() {
		c, _ := s.Class(i)
		all = append(all, c, s.Name(i), s.Super(i), s.Above(i), s.Interfaces(i))
	}
	return all
}

// roomy is a list with spare room, in which something stands.
func roomy(words []api.Word) []api.Word {
	beyond := l(long, more, ref("B"), api.Word{Kind: -1})
	return slices.Concat(words, beyond)[:len(words)]
}

// frames are frames that may be, and such as may not, all of whose lists have spare room.
func frames(d *dice, s *link.Set) []api.Frame {
	all := []api.Frame{{}, locals(long), stack(top), stack(one, more), locals(noWords()...), locals(times(256, one)...)}
	for range 12 {
		all = append(all, rolledFrame(d, s, 4, 2))
	}
	for i, f := range all {
		all[i] = api.Frame{Locals: roomy(f.Locals), Stack: roomy(f.Stack)}
	}
	return all
}

// whole is a frame with what stands in its lists' spare rooms, in memory of its own.
func whole(f api.Frame) api.Frame {
	return api.Frame{Locals: slices.Clone(f.Locals[:cap(f.Locals)]), Stack: slices.Clone(f.Stack[:cap(f.Stack)])}
}

func TestP125Untouched(t *testing.T) {
	d := &dice{state: 37}
	s := linked(t, rich())
	before := told(s)
	all := frames(d, s)
	var wholeBefore []api.Frame
	for _, f := range all {
		wholeBefore = append(wholeBefore, whole(f))
	}
	for _, x := range append(noSets(), s) {
		for _, a := range all {
			for _, b := range all {
				word.Frames(x, a, b)
				word.Same(a, b)
			}
			word.May(x, a)
		}
		for _, w := range append(mayWords(names(s)), noWords()...) {
			word.Merge(x, w, ref("A"))
			word.Fits(x, w, w.Type)
			word.Of(w.Type)
		}
	}
	for i, f := range all {
		if !word.Same(whole(f), wholeBefore[i]) {
			t.Errorf("%s has become %s", said(wholeBefore[i]), said(whole(f)))
		}
	}
	if !reflect.DeepEqual(told(s), before) {
		t.Error("the set has changed")
	}
}

// Two lists of one frame, and those of two, may be one: what comes of them are lists of their own.
func TestP125NewLists(t *testing.T) {
	for _, s := range append(noSets(), linked(t, example())) {
		words := roomy(l(one, long, more, null))
		a := api.Frame{Locals: words, Stack: words}
		f, ok := word.Frames(s, a, a)
		g, _ := word.Frames(s, a, a)
		if !ok {
			t.Fatalf("Frames(%s): false", said(a))
		}
		for _, made := range [][]api.Word{f.Locals, f.Stack} {
			made = made[:cap(made)]
			for i := range made {
				made[i] = api.Word{Kind: 99}
			}
			if !slices.Equal(words[:cap(words)], l(one, long, more, null, long, more, ref("B"), api.Word{Kind: -1})) || !word.Same(g, a) {
				t.Errorf("%v; %s", words[:cap(words)], said(g))
			}
		}
		g, _ = word.Frames(s, a, a)
		if !word.Same(g, a) {
			t.Errorf("Frames(%s): %s", said(a), said(g))
		}
		h, _ := word.Frames(s, a, a)
		clear(h.Stack[:cap(h.Stack)])
		if !slices.Equal(h.Locals, words) {
			t.Errorf("locals and stack share memory: %s", said(h))
		}
	}
}

// What is done to frames afterwards changes nothing that was answered.
func TestP125NotKept(t *testing.T) {
	d := &dice{state: 41}
	s := linked(t, rich())
	for range 50 {
		a, b := rolledFrame(d, s, 4, 0), rolledFrame(d, s, 4, 0)
		f, _ := word.Frames(s, a, b)
		before := whole(f)
		clear(a.Locals)
		clear(b.Locals)
		if !word.Same(f, before) {
			t.Errorf("%s has become %s", said(before), said(f))
		}
	}
}

func TestP125NewOf(t *testing.T) {
	for _, typ := range append(types([]string{"A"}), noTypes()...) {
		want := slices.Clone(word.Of(typ))
		made := word.Of(typ)
		made = made[:cap(made)]
		for i := range made {
			made[i] = api.Word{Kind: 99}
		}
		wantOf(t, typ, want...)
	}
}

// wantNewTexts tells that no two texts share memory.
func wantNewTexts(t *testing.T, texts []string) {
	t.Helper()
	had := map[uintptr]string{}
	for _, s := range texts {
		if s == "" {
			continue
		}
		from := uintptr(unsafe.Pointer(unsafe.StringData(s)))
		for at := from; at < from+uintptr(len(s)); at++ {
			if other, is := had[at]; is {
				t.Errorf("%q and %q share memory", s, other)
			}
			had[at] = s
		}
	}
}

// apart is a word whose name is in memory of its own.
func apart(w api.Word) api.Word {
	w.Type.Name = strings.Clone(w.Type.Name)
	return w
}

// No name that is answered shares memory with one that is handed in, nor with another one that is answered.
func TestP125NewTexts(t *testing.T) {
	s := linked(t, rich())
	// All are kept, so that no memory comes again.
	texts := names(s)
	for _, x := range []*link.Set{nil, s} {
		for _, a := range l(ref("E"), ref("F"), refs("E"), refs("F"), ref("I"), ints, null, object) {
			for _, b := range l(ref("E"), ref("F"), refs("E"), refs("F"), ref("I"), ints, null, object) {
				a, b := apart(a), apart(b)
				texts = append(texts, a.Type.Name, b.Type.Name, word.Merge(x, a, b).Type.Name)
				f, _ := word.Frames(x, api.Frame{Locals: l(a, a), Stack: l(a)}, api.Frame{Locals: l(b, b), Stack: l(b)})
				for _, w := range append(f.Locals, f.Stack...) {
					texts = append(texts, w.Type.Name)
				}
			}
			a = apart(a)
			texts = append(texts, a.Type.Name)
			for _, w := range word.Of(a.Type) {
				texts = append(texts, w.Type.Name)
			}
		}
	}
	wantNewTexts(t, texts)
}

// Nothing hangs on what was asked before, of this set or of another one.
func TestP125Apart(t *testing.T) {
	small, big := linked(t, example()), linked(t, rich())
	for range 2 {
		wantModel(t, small, newModel(example()))
		wantModel(t, big, newModel(rich()))
		for _, s := range noSets() {
			wantMerge(t, s, ref("B"), ref("C"), top)
		}
	}
}

package word_test

import (
	"slices"
	"testing"

	"warpbeam/api"
	"warpbeam/link"
	"warpbeam/word"
)

func TestP123Examples(t *testing.T) {
	s := linked(t, example())
	wantFrames(t, s, stack(ref("B")), stack(ref("C")), stack(ref("A")))
	wantFrames(t, s, stack(ref("B")), stack(null), stack(ref("B")))
	wantFrames(t, s, stack(ref("B")), stack(ref("I")), stack(object))
	wantFrames(t, s, stack(refs("B")), stack(ints), stack(object))
	wantFrames(t, s, locals(one), locals(null), locals(top))
	// No frame has a long's first word alone.
	wantApart(t, s, locals(long, more), locals(long, one))
}

func TestP123WordByWord(t *testing.T) {
	s := linked(t, rich())
	a := api.Frame{Locals: l(one, long, more, null, ref("E"), refs("D"), ints, top), Stack: l(ref("F"), long, more, null, one)}
	b := api.Frame{Locals: l(one, long, more, ref("I"), ref("C"), refs("F"), longs, one), Stack: l(ref("D"), long, more, refs("G"), one)}
	want := api.Frame{Locals: l(one, long, more, ref("I"), ref("A"), refs("A"), object, top), Stack: l(ref("A"), long, more, refs("G"), one)}
	wantFrames(t, s, a, b, want)
	wantFrames(t, s, a, want, api.Frame{Locals: l(one, long, more, ref("I"), ref("A"), refs("A"), object, top), Stack: want.Stack})
	wantFrames(t, s, want, want, want)
}

func TestP123NoWords(t *testing.T) {
	for _, s := range append(noSets(), linked(t, example())) {
		for _, a := range []api.Frame{{}, {Locals: l(), Stack: []api.Word{}}} {
			wantFrames(t, s, a, api.Frame{}, api.Frame{})
		}
		wantFrames(t, s, locals(one), api.Frame{Locals: l(one), Stack: []api.Word{}}, locals(one))
		wantFrames(t, s, stack(one), api.Frame{Locals: []api.Word{}, Stack: l(one)}, stack(one))
	}
}

// One frame that may not be, at whatever place it may not, comes with none to anything, with itself neither.
func TestP123NoFrames(t *testing.T) {
	s := linked(t, example())
	good := l(one, long, more, ref("A"))
	for _, w := range append(noWords(), long, more, ref("X")) {
		for at := range good {
			bad := slices.Clone(good)
			bad[at] = w
			if word.May(s, locals(bad...)) {
				continue // one half of a long, in place of the same
			}
			wantApart(t, s, locals(bad...), locals(good...))
			wantApart(t, s, locals(bad...), locals(bad...))
			wantApart(t, s, stack(bad...), stack(good...))
			wantApart(t, s, stack(bad...), stack(bad...))
		}
	}
	wantApart(t, s, stack(top), stack(top))
	wantApart(t, s, stack(one, top), stack(one, one))
	for _, w := range l(one, null, ref("A"), top) {
		wantApart(t, s, locals(times(256, w)...), locals(times(256, w)...))
		wantApart(t, s, stack(times(256, w)...), stack(times(256, w)...))
	}
}

func TestP123Lengths(t *testing.T) {
	s := linked(t, example())
	for a := range 5 {
		for b := range 5 {
			if a == b {
				wantFrames(t, s, locals(times(a, one)...), locals(times(b, one)...), locals(times(a, one)...))
				wantFrames(t, s, stack(times(a, one)...), stack(times(b, one)...), stack(times(a, one)...))
				continue
			}
			wantApart(t, s, locals(times(a, one)...), locals(times(b, one)...))
			wantApart(t, s, stack(times(a, one)...), stack(times(b, one)...))
			wantApart(t, s, api.Frame{Locals: times(a, one), Stack: times(b, one)}, api.Frame{Locals: times(b, one), Stack: times(a, one)})
		}
	}
	wantApart(t, s, locals(top), locals())
	wantApart(t, s, api.Frame{Locals: l(one), Stack: l(one)}, locals(one, one))
}

func TestP123Most(t *testing.T) {
	s := linked(t, example())
	f := api.Frame{Locals: append(times(127, long, more), top), Stack: times(255, null)}
	g := api.Frame{Locals: append(times(127, long, more), one), Stack: times(255, ref("B"))}
	wantFrames(t, s, f, g, api.Frame{Locals: f.Locals, Stack: g.Stack})
}

// Of a long that is not one on both ways neither half is known.
func TestP123Longs(t *testing.T) {
	s := linked(t, example())
	for _, k := range []struct{ a, b, want []api.Word }{
		{l(long, more), l(long, more), l(long, more)},
		{l(long, more), l(one, one), l(top, top)},
		{l(long, more), l(top, one), l(top, top)},
		{l(long, more), l(null, ref("A")), l(top, top)},
		{l(long, more, one), l(one, long, more), l(top, top, top)},
		{l(long, more, long, more), l(long, more, one, one), l(long, more, top, top)},
		{l(long, more, long, more), l(one, long, more, one), l(top, top, top, top)},
		{l(one, long, more, one), l(one, long, more, null), l(one, long, more, top)},
		{l(long, more, long, more, long, more), l(one, long, more, long, more, one), times(6, top)},
		{l(long, more, long, more), l(long, more, long, more), l(long, more, long, more)},
	} {
		wantFrames(t, s, locals(k.a...), locals(k.b...), locals(k.want...))
		if slices.Contains(k.want, top) {
			wantApart(t, s, stack(k.a...), stack(k.b...))
		}
	}
	wantFrames(t, s, stack(one, long, more), stack(one, long, more), stack(one, long, more))
}

// A word of the stack that comes to WordTop, at whatever place, is one too many; one of the locals is not.
func TestP123StackTop(t *testing.T) {
	s := linked(t, example())
	for at := range 5 {
		for _, w := range l(null, ref("A"), ints) {
			a, b, want := times(5, one), times(5, one), times(5, one)
			b[at], want[at] = w, top
			wantApart(t, s, stack(a...), stack(b...))
			wantApart(t, s, api.Frame{Locals: a, Stack: a}, api.Frame{Locals: b, Stack: b})
			wantFrames(t, s, api.Frame{Locals: a, Stack: a}, api.Frame{Locals: b, Stack: a}, api.Frame{Locals: want, Stack: a})
		}
	}
}

// Of a set that is none references may not be; all else comes together as with one that has classes.
func TestP123NoSet(t *testing.T) {
	for _, s := range noSets() {
		wantFrames(t, s, api.Frame{Locals: l(one, null, top, long, more), Stack: l(null, long, more)}, api.Frame{Locals: l(one, one, one, one, one), Stack: l(null, long, more)}, api.Frame{Locals: l(one, top, top, top, top), Stack: l(null, long, more)})
		wantApart(t, s, stack(one), stack(null))
		for _, w := range l(object, ints, longs, refs("Object"), ref("A")) {
			for _, other := range l(w, null, one, top) {
				wantApart(t, s, locals(w), locals(other))
				wantApart(t, s, stack(w), stack(other))
			}
		}
	}
}

func TestP123Model(t *testing.T) {
	d := &dice{state: 3}
	met := 0
	for _, classes := range worlds() {
		s, m := linked(t, classes), newModel(classes)
		for range 60 {
			locals, stack := d.roll(6), d.roll(4)
			a, b := rolledFrame(d, s, locals, stack), rolledFrame(d, s, locals, stack)
			want := api.Frame{Locals: m.lists(a.Locals, b.Locals), Stack: m.lists(a.Stack, b.Stack)}
			if slices.Contains(want.Stack, top) {
				wantApart(t, s, a, b)
				continue
			}
			met++
			wantFrames(t, s, a, b, want)
		}
	}
	if met < 300 {
		t.Errorf("%d come together", met)
	}
}

// lists is to what lists come together, by the chapter's words.
func (m model) lists(a, b []api.Word) []api.Word {
	var made, out []api.Word
	for i := range a {
		made = append(made, m.merge(a[i], b[i]))
	}
	for i, w := range made {
		if w == long && (i == len(made)-1 || made[i+1] != more) || w == more && (i == 0 || made[i-1] != long) {
			w = top
		}
		out = append(out, w)
	}
	return out
}

func TestP124MayWords(t *testing.T) {
	s := linked(t, example())
	for _, w := range mayWords(names(s)) {
		is := w != long && w != more
		wantMay(t, s, locals(w), is)
		wantMay(t, s, stack(w), is && w != top)
	}
	good := l(one, long, more, null, ref("B"), refs("I"), ints)
	wantMayBoth(t, s, good, true)
	for at := range good {
		for _, w := range append(noWords(), ref("X"), refs("X")) {
			bad := slices.Clone(good)
			bad[at] = w
			wantMayBoth(t, s, bad, false)
			wantMay(t, s, api.Frame{Locals: good, Stack: bad}, false)
			wantMay(t, s, api.Frame{Locals: bad, Stack: good}, false)
		}
	}
}

func TestP124MayLongs(t *testing.T) {
	for _, s := range append(noSets(), linked(t, example())) {
		for _, words := range [][]api.Word{{long, more}, {long, more, long, more}, {one, long, more}, {long, more, one}, {one, long, more, null, long, more}} {
			wantMayBoth(t, s, words, true)
		}
		for _, words := range [][]api.Word{
			{long}, {more}, {more, long}, {long, long}, {more, more}, {long, one}, {one, more}, {long, one, more}, {one, long}, {more, one}, {one, long, one}, {one, more, one},
			{long, long, more, more}, {long, more, more}, {long, long, more}, {long, more, long}, {more, long, more}, {long, more, one, more}, {long, null}, {null, more},
		} {
			wantMayBoth(t, s, words, false)
		}
		// A long does not go on from the locals to the stack.
		wantMay(t, s, api.Frame{Locals: l(long), Stack: l(more)}, false)
	}
}

func TestP124MayTop(t *testing.T) {
	for _, s := range append(noSets(), linked(t, example())) {
		for at := range 3 {
			words := times(3, one)
			words[at] = top
			wantMay(t, s, locals(words...), true)
			wantMay(t, s, stack(words...), false)
			wantMay(t, s, api.Frame{Locals: words, Stack: times(3, one)}, true)
		}
		wantMay(t, s, locals(times(255, top)...), true)
		wantMay(t, s, api.Frame{}, true)
		wantMay(t, s, api.Frame{Locals: []api.Word{}, Stack: []api.Word{}}, true)
	}
}

func TestP124MayMost(t *testing.T) {
	for _, s := range append(noSets(), linked(t, example())) {
		for _, w := range l(one, null) {
			wantMayBoth(t, s, times(255, w), true)
			wantMayBoth(t, s, times(256, w), false)
			wantMay(t, s, api.Frame{Locals: times(255, w), Stack: times(255, w)}, true)
			wantMay(t, s, api.Frame{Locals: times(256, w), Stack: times(255, w)}, false)
			wantMay(t, s, api.Frame{Locals: times(255, w), Stack: times(256, w)}, false)
		}
		wantMayBoth(t, s, append(times(127, long, more), one), true)
		wantMayBoth(t, s, times(128, long, more), false)
		wantMay(t, s, locals(times(256, top)...), false)
		wantMayBoth(t, s, times(1<<16, one), false)
	}
}

// Of a set that is none references may not be; that there is none may.
func TestP124MayNoSet(t *testing.T) {
	for _, s := range noSets() {
		for _, w := range append(noWords(), object, ref("A"), refs("Object"), ints, longs) {
			wantMayBoth(t, s, l(w), false)
			wantMayBoth(t, s, l(one, w), false)
		}
		for _, w := range l(one, null) {
			wantMayBoth(t, s, l(w), true)
		}
	}
	var s link.Set
	wantMay(t, &s, locals(one, null, top), true)
}

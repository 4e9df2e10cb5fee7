package word

import (
	"warpbeam/api"
	"warpbeam/link"
)

// both is the type to which two come together that may be, and are references.
func both(s *link.Set, a, b api.Type) api.Type {
	// Two arrays of ints, or of longs, are the same: so two that are of one kind, and are not, name a class each.
	if a.Kind != b.Kind {
		return api.Type{Kind: api.KindRef, Name: s.Name(link.Object)}
	}
	x, _ := s.Number(a.Name)
	y, _ := s.Number(b.Name)
	return api.Type{Kind: a.Kind, Name: s.Name(s.Common(x, y))}
}

// lists is what two lists of as many words come together to.
func lists(s *link.Set, a, b []api.Word) []api.Word {
	l := make([]api.Word, len(a))
	for i := range l {
		l[i] = Merge(s, a[i], b[i])
	}
	for i := range l {
		if !whole(l, i) {
			l[i] = api.Word{}
		}
	}
	return l
}

// whole tells whether a word of a list, if it is a half of a long, has the other half beside it.
func whole(l []api.Word, i int) bool {
	switch l[i].Kind {
	case api.WordLong:
		return i+1 < len(l) && l[i+1].Kind == api.WordMore
	case api.WordMore:
		return i > 0 && l[i-1].Kind == api.WordLong
	}
	return true
}

// mayAll tells whether a list of words may be, and is no longer than that.
func mayAll(s *link.Set, l []api.Word, most int) bool {
	return len(l) <= most && all(l, func(i int) bool { return mayBe(s, l[i]) && whole(l, i) })
}

// all tells whether something is so at each place of a list.
func all(l []api.Word, is func(i int) bool) bool {
	for i := range l {
		if !is(i) {
			return false
		}
	}
	return true
}

// mayBe tells whether a word may be.
func mayBe(s *link.Set, w api.Word) bool {
	if w.Kind == api.WordRef {
		return mayRef(s, w.Type)
	}
	return w.Kind >= api.WordTop && w.Kind < api.WordRef && w.Type == (api.Type{})
}

// mayRef tells whether a type may be, and is a reference.
func mayRef(s *link.Set, t api.Type) bool { return t.Kind >= api.KindRef && s.MayType(t) }

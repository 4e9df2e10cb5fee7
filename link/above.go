package link

import (
	"slices"

	"warpbeam/api"
)

// climb is all above a class, in the order in which methods are looked for, and how many of these lead up to Object by the classes above.
func (s *Set) climb(i int) (above []int, line int) {
	var up, across func(i int)
	up = func(i int) {
		if i != none {
			above = append(above, i)
			up(s.Super(i))
		}
	}
	across = func(i int) {
		for _, other := range s.node(i).interfaces {
			// One that has come already has its own interfaces behind it there: to climb them again for each way that leads to it would take too long.
			if !slices.Contains(above, other) {
				above = append(above, other)
				across(other)
			}
		}
	}
	up(i)
	line = len(above)
	for _, other := range above[:line] {
		across(other)
	}
	return above, line
}

// Below tells whether a class stands below another one.
func (s *Set) Below(a, b int) bool { return slices.Contains(s.node(a).above, b) }

// Above is all above a class, itself first, in the order in which methods are looked for.
func (s *Set) Above(i int) []int { return slices.Clone(s.node(i).above) }

// Common is the nearest class above both; -1, if one of them is none.
func (s *Set) Common(a, b int) int {
	x, y := s.node(a).upwards(), s.node(b).upwards()
	// Where they have met they are the same up to Object: so they meet at places that are as far from the end.
	size := min(len(x), len(y))
	x, y = x[len(x)-size:], y[len(y)-size:]
	for at, i := range x {
		if y[at] == i {
			return i
		}
	}
	return none
}

// upwards are a class, the one above it, and so on up to Object.
func (n *node) upwards() []int { return n.above[:n.line] }

// MayType tells whether a type may be: whether it names a class that there is, if it has to, and none, if it has not.
func (s *Set) MayType(t api.Type) bool {
	switch t.Kind {
	case api.KindInt, api.KindLong, api.KindInts, api.KindLongs:
		return t.Name == "" && s.Len() > 0
	case api.KindRef, api.KindRefs:
		_, is := s.Number(t.Name)
		return is
	}
	return false
}

// BelowType tells whether a type that is a reference stands below another one.
func (s *Set) BelowType(a, b api.Type) bool {
	if !s.mayRef(a) || !s.mayRef(b) {
		return false
	}
	if a == b || b == (api.Type{Kind: api.KindRef, Name: builtInNames[Object]}) {
		return true
	}
	// Two that are of one kind, and not the same, name a class each.
	return a.Kind == b.Kind && s.Below(s.named(a.Name), s.named(b.Name))
}

// mayRef tells whether a type may be, and is a reference.
func (s *Set) mayRef(t api.Type) bool { return t.Kind >= api.KindRef && s.MayType(t) }

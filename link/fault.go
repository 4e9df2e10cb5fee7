package link

import (
	"slices"

	"warpbeam/api"
)

// fault is the first error of the classes that were handed in, and the name that it is about. Each check looks at all of them ahead of the next one, which may lean on it.
func (s *Set) fault() (string, api.Errno) {
	checks := []func(i int) (string, api.Errno){s.twice, s.unknown, s.superUnfit, s.interfacesUnfit, s.cycle}
	for _, check := range checks {
		for i := BuiltIn; i < len(s.nodes); i++ {
			if name, e := check(i); e != api.OK {
				return name, e
			}
		}
	}
	return "", api.OK
}

// fails is a check's answer on a class: that error, and the class's name, if it is so.
func (n *node) fails(is bool, e api.Errno) (string, api.Errno) {
	if !is {
		return "", api.OK
	}
	return n.class.Name, e
}

// twice tells of a class whose name another one had first.
func (s *Set) twice(i int) (string, api.Errno) {
	n := s.node(i)
	return n.fails(s.named(n.class.Name) != i, api.ErrTwice)
}

// unknown tells of a name of which there is no class.
func (s *Set) unknown(i int) (string, api.Errno) {
	n := s.node(i)
	if n.super == none {
		return n.class.Super, api.ErrLink
	}
	if at := slices.Index(n.interfaces, none); at >= 0 {
		return n.class.Interfaces[at], api.ErrLink
	}
	return "", api.OK
}

// superUnfit tells of a class that may not have the one above it that it has.
func (s *Set) superUnfit(i int) (string, api.Errno) {
	n := s.node(i)
	return n.fails(s.IsInterface(n.super) || n.class.Interface && n.super != Object, api.ErrLink)
}

// interfacesUnfit tells of a class one of whose interfaces is none, or named twice.
func (s *Set) interfacesUnfit(i int) (string, api.Errno) {
	n := s.node(i)
	for at, other := range n.interfaces {
		if !s.IsInterface(other) || slices.Contains(n.interfaces[:at], other) {
			return n.class.Name, api.ErrLink
		}
	}
	return "", api.OK
}

// cycle tells of a class that stands above itself.
func (s *Set) cycle(i int) (string, api.Errno) {
	seen := make([]bool, len(s.nodes))
	var visit func(i int)
	visit = func(i int) {
		n := s.node(i)
		for _, up := range append([]int{n.super}, n.interfaces...) {
			if up != none && !seen[up] {
				seen[up] = true
				visit(up)
			}
		}
	}
	visit(i)
	return s.node(i).fails(seen[i], api.ErrCycle)
}

package link_test

import (
	"slices"
	"testing"

	"warpbeam/api"
	"warpbeam/link"
)

// sets are sets of classes that fit, few and many, also of such as no model can go through.
func sets(t *testing.T) []*link.Set {
	lists := append(fitting(), line(64), tight(64), all())
	d := &dice{state: 7}
	for range 100 {
		lists = append(lists, someFit(d, 1+d.roll(16)))
	}
	var l []*link.Set
	for _, classes := range lists {
		s, name, e := link.New(classes)
		if e != api.OK {
			t.Fatalf("New(%s): %q, %d", brief(classes), name, e)
		}
		l = append(l, s)
	}
	return l
}

func TestP95Order(t *testing.T) {
	for _, s := range sets(t) {
		for a := range s.Len() {
			if !s.Below(a, a) || !s.Below(a, link.Object) {
				t.Errorf("%s: %v, %v", s.Name(a), s.Below(a, a), s.Below(a, link.Object))
			}
			for b := range s.Len() {
				if !s.Below(a, b) {
					continue
				}
				if a != b && s.Below(b, a) {
					t.Errorf("%s and %s stand below each other", s.Name(a), s.Name(b))
				}
				for c := range s.Len() {
					if s.Below(b, c) && !s.Below(a, c) {
						t.Errorf("%s stands below %s, that below %s", s.Name(a), s.Name(b), s.Name(c))
					}
				}
			}
		}
	}
}

// Below is no more than what Super and Interfaces lead to, and what Above tells.
func TestP95StepByStep(t *testing.T) {
	for _, s := range sets(t) {
		for a := range s.Len() {
			ups := s.Interfaces(a)
			if super := s.Super(a); super >= 0 {
				ups = append(ups, super)
			}
			for b := range s.Len() {
				want := a == b || slices.ContainsFunc(ups, func(up int) bool { return s.Below(up, b) })
				if s.Below(a, b) != want || slices.Contains(s.Above(a), b) != want {
					t.Errorf("%s, %s: %v, %v; want %v", s.Name(a), s.Name(b), s.Below(a, b), s.Above(a), want)
				}
			}
		}
	}
}

// upwards are a class, the one above it, and so on.
func upwards(s *link.Set, i int) []int {
	var l []int
	for ; i >= 0; i = s.Super(i) {
		l = append(l, i)
	}
	return l
}

func TestP96Nearest(t *testing.T) {
	for _, s := range sets(t) {
		for a := range s.Len() {
			for b := range s.Len() {
				common := s.Common(a, b)
				if !s.Below(a, common) || !s.Below(b, common) || common != s.Common(b, a) {
					t.Errorf("Common(%s, %s): %d, %d", s.Name(a), s.Name(b), common, s.Common(b, a))
				}
				ahead, _, _ := cut(upwards(s, a), common)
				for _, up := range ahead {
					if slices.Contains(upwards(s, b), up) {
						t.Errorf("Common(%s, %s): %s; %s stands above both further down", s.Name(a), s.Name(b), s.Name(common), s.Name(up))
					}
				}
				// One class below the other one is the nearest itself, but an interface is for itself alone.
				if s.Below(a, b) && !s.IsInterface(b) && common != b {
					t.Errorf("Common(%s, %s): %s", s.Name(a), s.Name(b), s.Name(common))
				}
				if s.IsInterface(b) && a != b && common != link.Object {
					t.Errorf("Common(%s, %s): %s", s.Name(a), s.Name(b), s.Name(common))
				}
			}
		}
	}
}

// cut cuts a list at a number.
func cut(l []int, n int) (ahead, behind []int, is bool) {
	at := slices.Index(l, n)
	if at < 0 {
		return l, nil, false
	}
	return l[:at], l[at+1:], true
}

// orders are a list in each order.
func orders[E any](l []E) [][]E {
	if len(l) <= 1 {
		return [][]E{slices.Clone(l)}
	}
	var out [][]E
	for i := range l {
		rest := slices.Concat(l[:i], l[i+1:])
		for _, o := range orders(rest) {
			out = append(out, append([]E{l[i]}, o...))
		}
	}
	return out
}

func TestP97EachOrder(t *testing.T) {
	for _, l := range [][]api.Class{example(), all(), {class("X", "Arith"), class("Y", "X", "i"), class("Z", "Y", "j"), face("i"), face("j", "i")}} {
		_, m := linked(t, l)
		for _, o := range orders(l) {
			s, _ := linked(t, o)
			wantModel(t, s, m)
		}
	}
	d := &dice{state: 11}
	for _, l := range fitting() {
		_, m := linked(t, l)
		for range 3 {
			s, _ := linked(t, shuffled(d, l))
			wantModel(t, s, m)
		}
	}
}

func TestP97EachOrderOfFaults(t *testing.T) {
	for _, l := range [][]api.Class{
		{class("A", "none"), class("B", "nil"), class("C", "C"), face("I", "A")},
		{class("A", "A"), class("B", "B"), class("C", "D"), class("D", "C")},
		{class("A", "D"), class("B", "B"), class("C", "D"), class("D", "C")},
		{class("A", "I"), class("B", "I"), class("C", "Object", "I", "I"), face("I", "I")},
		{class("A", "Object", "A"), class("B", "Object", "I", "I"), class("C", "C"), face("I")},
		{class("B", "Object"), class("Arith", "Object"), class("A", "none"), class("Null", "Object")},
		{class("B", "Object"), class("B", "A", "none"), face("A", "A"), class("B", "nil")},
		{class("B", "Object"), class("B", "none"), class("A", "Object"), class("A", "A")},
		{face("I", "J"), face("J", "K"), face("K", "I"), class("A", "Object", "K", "I")},
	} {
		_, name, e := newModel(l)
		if e == api.OK {
			t.Fatalf("%s fit", brief(l))
		}
		for _, o := range orders(l) {
			wantFault(t, o, name, e)
		}
	}
	d := &dice{state: 13}
	for range 500 {
		l := some(d)
		_, name, e := newModel(l)
		if e == api.OK {
			continue
		}
		for range 5 {
			wantFault(t, shuffled(d, l), name, e)
		}
	}
}

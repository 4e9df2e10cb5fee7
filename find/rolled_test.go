package find_test

import (
	"fmt"
	"slices"

	"warpbeam/api"
	"warpbeam/link"
)

// dice are numbers that look like none, always the same.
type dice struct{ state uint64 }

func (d *dice) roll(n int) int {
	d.state = d.state*6364136223846793005 + 1442695040888963407
	return int(d.state>>33) % n
}

// pick is one of some.
func pick[E any](d *dice, l ...E) E { return l[d.roll(len(l))] }

// shuffled is a list in another order.
func shuffled[E any](d *dice, l []E) []E {
	l = slices.Clone(l)
	for i := range l {
		k := i + d.roll(len(l)-i)
		l[i], l[k] = l[k], l[i]
	}
	return l
}

// rolled are classes that fit: each is above none that came ahead of it.
func rolled(d *dice, size int) []api.Class {
	supers, faces := []string{"Object", "Throwable", "Arith"}, []string{}
	var l []api.Class
	for i := range size {
		c := class(fmt.Sprintf("%s%d", pick(d, "a", "Z", "_", "$"), i), pick(d, supers[max(0, len(supers)-2):]...))
		if d.roll(5) < 2 {
			c = face(c.Name)
		}
		c.Interfaces = shuffled(d, faces)[:d.roll(min(len(faces), 3)+1)]
		if c.Interface {
			faces = append(faces, c.Name)
		} else {
			supers = append(supers, c.Name)
		}
		l = append(l, c)
	}
	all := signs(d, l)
	for i := range l {
		equip(d, &l[i], all, l)
	}
	fill(d, l)
	return shuffled(d, l)
}

// someType is a type that may be, where there are classes.
func someType(d *dice, l []api.Class) api.Type {
	name := pick(d, "Object", l[0].Name, pick(d, l...).Name)
	return pick(d, anInt, aLong, ints, ref(name), refs(name))
}

// signs are methods' names and protos, that differ: few, so that they meet; some of them of static methods alone.
func signs(d *dice, l []api.Class) []api.Method {
	var made []api.Method
	for _, name := range []string{"m", "n"} {
		for _, p := range []api.Proto{void, giving, ofInt, proto(aLong, anInt, ref(l[0].Name)), proto(aLong, ref(l[0].Name), anInt), proto(someType(d, l), ref("Object"))} {
			made = append(made, api.Method{Static: d.roll(3) == 0, Name: name, Proto: p})
		}
	}
	return made
}

// equip gives a class fields and methods.
func equip(d *dice, c *api.Class, all []api.Method, l []api.Class) {
	for _, name := range shuffled(d, []string{"x", "y", "z", "m"})[:d.roll(5)] {
		c.Fields = append(c.Fields, api.Field{Static: c.Interface || d.roll(3) == 0, Name: name, Type: someType(d, l)})
	}
	for _, a := range shuffled(d, all)[:d.roll(6)] {
		// An interface may have a static one where classes have one that is not.
		a.Static = a.Static || c.Interface && d.roll(3) == 0
		a.Abstract = c.Interface && !a.Static
		c.Methods = append(c.Methods, a)
	}
}

// fill gives classes the methods that their interfaces ask for.
func fill(d *dice, l []api.Class) {
	for i := range l {
		c := &l[i]
		s, _, _ := link.New(l)
		n, _ := s.Number(c.Name)
		for _, up := range s.Above(n) {
			from, _ := s.Class(up)
			for _, a := range from.Methods {
				if !a.Abstract || c.Interface || slices.ContainsFunc(c.Methods, func(b api.Method) bool { return alike(a, b) }) {
					continue
				}
				a.Abstract = false
				c.Methods = slices.Insert(c.Methods, d.roll(len(c.Methods)+1), a)
			}
		}
	}
}

// alike tells whether two methods have the same name and proto.
func alike(a, b api.Method) bool { return a.Name == b.Name && sameProto(a.Proto, b.Proto) }

package link

import (
	"bytes"
	"slices"
	"strings"

	"warpbeam/api"
)

// own is a class in memory of its own.
func own(c api.Class) api.Class {
	return api.Class{
		Pool:       each(c.Pool, ownConst),
		Name:       strings.Clone(c.Name),
		Super:      strings.Clone(c.Super),
		Interface:  c.Interface,
		Interfaces: each(c.Interfaces, strings.Clone),
		Fields:     each(c.Fields, ownField),
		Methods:    each(c.Methods, ownMethod),
	}
}

// each is a new list: what becomes of each one of another.
func each[E any](l []E, of func(E) E) []E {
	if l == nil {
		return nil
	}
	made := make([]E, len(l))
	for i, x := range l {
		made[i] = of(x)
	}
	return made
}

func ownConst(c api.Const) api.Const {
	c.Text = strings.Clone(c.Text)
	return c
}

func ownType(t api.Type) api.Type {
	t.Name = strings.Clone(t.Name)
	return t
}

func ownField(f api.Field) api.Field {
	f.Name, f.Type = strings.Clone(f.Name), ownType(f.Type)
	return f
}

func ownMethod(m api.Method) api.Method {
	m.Name = strings.Clone(m.Name)
	m.Proto = api.Proto{Ret: ownType(m.Proto.Ret), Args: each(m.Proto.Args, ownType)}
	m.Code, m.Handlers = bytes.Clone(m.Code), slices.Clone(m.Handlers)
	return m
}

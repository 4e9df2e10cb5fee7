package link_test

import (
	"reflect"
	"slices"
	"strings"
	"testing"
	"unsafe"

	"warpbeam/api"
	"warpbeam/link"
)

// rich is a class with some of all, such as may be and such as may not.
func rich() api.Class {
	typ := api.Type{Kind: api.KindRefs, Name: "Type"}
	return api.Class{
		Pool: []api.Const{{}, {Kind: 1, Text: "text"}, {Kind: 4, A: 1}, {Kind: 9, Text: "other", N: -1, A: 7, B: -8, C: 1 << 40}},
		Name: "Rich", Super: "A", Interfaces: []string{"I"},
		Fields: []api.Field{{Static: true, Name: "field", Type: typ}, {Name: "1"}, {Name: "field", Type: api.Type{Kind: -1, Name: "Types"}}},
		Methods: []api.Method{
			{Abstract: true, Name: "method"},
			{Static: true, Name: "other", Proto: api.Proto{Ret: typ, Args: []api.Type{{Kind: 1}, typ}}, Stack: 300, Locals: -1, Code: []byte{1, 2, 0x5A}, Handlers: []api.Handler{{From: 1, To: 2, At: 3, Class: 4}, {From: -1}}},
			{Static: true, Abstract: true, Proto: api.Proto{Args: make([]api.Type, 20)}, Code: []byte{0}, Handlers: []api.Handler{}},
		},
	}
}

// all are classes that fit, with some of all.
func all() []api.Class {
	l := []api.Class{rich(), face("J", "I"), class("A", "Object", "J"), face("I"), rich()}
	l[4].Name, l[4].Super, l[4].Interfaces = "B", "Rich", []string{"J", "I"}
	return l
}

// none is a list: nil, if it is without elements.
func none[E any](l []E) []E {
	if len(l) == 0 {
		return nil
	}
	return l
}

// alike is a class whose lists without elements are nil.
func alike(c api.Class) api.Class {
	c.Pool, c.Interfaces, c.Fields, c.Methods = none(c.Pool), none(c.Interfaces), none(c.Fields), none(slices.Clone(c.Methods))
	for i, m := range c.Methods {
		m.Proto.Args, m.Code, m.Handlers = none(m.Proto.Args), none(m.Code), none(m.Handlers)
		c.Methods[i] = m
	}
	return c
}

// same tells whether two classes are the same: lists without elements may be nil or not.
func same(a, b api.Class) bool {
	return reflect.DeepEqual(alike(a), alike(b))
}

// roomy is a list with spare room, in which something stands.
func roomy[E any](l []E, beyond ...E) []E {
	return slices.Concat(l, beyond)[:len(l)]
}

// whole is a list with what stands in its spare room, in memory of its own.
func whole[E any](l []E) []E {
	return slices.Clone(l[:cap(l)])
}

// allRoomy are classes all of whose lists have spare room.
func allRoomy(l []api.Class) []api.Class {
	l = roomy(l, class("spare", "none"), api.Class{})
	for i, c := range l {
		c.Pool = roomy(c.Pool, api.Const{Kind: 1, Text: "spare"})
		c.Interfaces = roomy(c.Interfaces, "spare", "I")
		c.Fields = roomy(c.Fields, api.Field{Name: "spare"})
		c.Methods = roomy(c.Methods, api.Method{Name: "spare"})
		for k, m := range c.Methods {
			m.Proto.Args, m.Code, m.Handlers = roomy(m.Proto.Args, api.Type{Name: "spare"}), roomy(m.Code, 0x5A), roomy(m.Handlers, api.Handler{To: -1})
			c.Methods[k] = m
		}
		l[i] = c
	}
	return l
}

// wholeOf are classes with what stands in their lists' spare rooms, in memory of its own.
func wholeOf(l []api.Class) []api.Class {
	l = whole(l)
	for i, c := range l {
		c.Pool, c.Interfaces, c.Fields, c.Methods = whole(c.Pool), whole(c.Interfaces), whole(c.Fields), whole(c.Methods)
		for k, m := range c.Methods {
			m.Proto.Args, m.Code, m.Handlers = whole(m.Proto.Args), whole(m.Code), whole(m.Handlers)
			c.Methods[k] = m
		}
		l[i] = c
	}
	return l
}

// wipe takes all out of a class's lists.
func wipe(c api.Class) {
	for _, m := range c.Methods {
		clear(m.Proto.Args)
		clear(m.Code)
		clear(m.Handlers)
	}
	clear(c.Pool)
	clear(c.Interfaces)
	clear(c.Fields)
	clear(c.Methods)
}

// span is a piece of memory.
type span struct {
	what     string
	from, to uintptr
}

// wantApart tells that no piece of memory of the one kind meets one of the other kind.
func wantApart(t *testing.T, l, m []span) {
	t.Helper()
	for _, a := range l {
		for _, b := range m {
			if a.from < b.to && b.from < a.to {
				t.Errorf("%.60s and %.60s share memory", a.what, b.what)
			}
		}
	}
}

// listSpan is where a list lies, its spare room with it.
func listSpan[E any](what string, l []E) span {
	var one E
	from := uintptr(unsafe.Pointer(unsafe.SliceData(l)))
	return span{what, from, from + uintptr(cap(l))*unsafe.Sizeof(one)}
}

func textSpan(s string) span {
	from := uintptr(unsafe.Pointer(unsafe.StringData(s)))
	return span{"text " + s, from, from + uintptr(len(s))}
}

// listsOf is where all lists of a class lie.
func listsOf(c api.Class) []span {
	l := []span{listSpan("Pool", c.Pool), listSpan("Interfaces", c.Interfaces), listSpan("Fields", c.Fields), listSpan("Methods", c.Methods)}
	for _, m := range c.Methods {
		l = append(l, listSpan("Args of "+m.Name, m.Proto.Args), listSpan("Code of "+m.Name, m.Code), listSpan("Handlers of "+m.Name, m.Handlers))
	}
	return slices.DeleteFunc(l, func(s span) bool { return s.from == s.to })
}

// textsOf is where all texts of a class lie.
func textsOf(c api.Class) []span {
	texts := append([]string{c.Name, c.Super}, c.Interfaces...)
	for _, x := range c.Pool {
		texts = append(texts, x.Text)
	}
	for _, f := range c.Fields {
		texts = append(texts, f.Name, f.Type.Name)
	}
	for _, m := range c.Methods {
		texts = append(texts, m.Name, m.Proto.Ret.Name)
		for _, typ := range m.Proto.Args {
			texts = append(texts, typ.Name)
		}
	}
	var l []span
	for _, s := range texts {
		if s != "" {
			l = append(l, textSpan(s))
		}
	}
	return l
}

// faulty are classes that do not fit, one list for each check.
func faulty() [][]api.Class {
	l := [][]api.Class{all(), all(), all(), all(), all(), make([]api.Class, 65), plain(65)}
	l[0][1].Name = "I"
	l[1][2].Super = "none"
	l[2][0].Super = "J"
	l[3][4].Interfaces = []string{"J", "J"}
	l[4][3].Interfaces = []string{"J"}
	return l
}

func TestP94Untouched(t *testing.T) {
	for _, l := range append(append(fitting(), all()), faulty()...) {
		l = allRoomy(l)
		before := wholeOf(l)
		s, _, _ := link.New(l)
		for i := range s.Len() {
			c, _ := s.Class(i)
			wipe(c)
			clear(s.Interfaces(i))
			clear(s.Above(i))
		}
		if !reflect.DeepEqual(wholeOf(l), before) {
			t.Errorf("what was handed in has become %s; it was %s", show(wholeOf(l)), show(before))
		}
	}
}

// What stands in the spare room is no part of a list.
func TestP94SpareRoom(t *testing.T) {
	for _, l := range append(fitting(), all()) {
		s, _ := linked(t, allRoomy(l))
		_, m := linked(t, l)
		wantModel(t, s, m)
	}
}

func TestP94NotKept(t *testing.T) {
	again := append(fitting(), all())
	for i, l := range append(fitting(), all()) {
		s, _ := linked(t, l)
		for _, c := range l {
			wipe(c)
		}
		clear(l)
		_, m := linked(t, again[i])
		wantModel(t, s, m)
	}
}

func TestP94NotAnswered(t *testing.T) {
	l := all()
	s, _ := linked(t, l)
	handed := []span{listSpan("classes", l)}
	for _, c := range l {
		handed = slices.Concat(handed, listsOf(c), textsOf(c))
	}
	for i := range s.Len() {
		c, _ := s.Class(i)
		wantApart(t, slices.Concat(listsOf(c), textsOf(c)), handed)
		if i >= link.BuiltIn {
			wantApart(t, []span{textSpan(s.Name(i))}, handed)
		}
	}
}

func TestP94NewMemory(t *testing.T) {
	for _, l := range append(fitting(), all()) {
		s, m := linked(t, l)
		for i := range s.Len() {
			c, _ := s.Class(i)
			other, _ := s.Class(i)
			lists := listsOf(c)
			wantApart(t, lists, slices.Concat(listsOf(other), textsOf(other)))
			wantApart(t, textsOf(c), textsOf(other))
			name := textSpan(s.Name(i))
			wantApart(t, []span{name}, append(textsOf(c), textSpan(s.Name(i))))
			for k := range lists {
				wantApart(t, lists[:k], lists[k:k+1])
			}
			wipe(c)
			for _, numbers := range [][]int{s.Above(i), s.Interfaces(i), s.Above(i), s.Interfaces(i)} {
				for k := range numbers[:cap(numbers)] {
					numbers[:cap(numbers)][k] = 99
				}
			}
		}
		wantModel(t, s, m)
	}
}

// The name that is told with an error is new memory, too.
func TestP94NewName(t *testing.T) {
	for _, l := range faulty() {
		var handed []span
		for _, c := range l {
			handed = slices.Concat(handed, textsOf(c))
		}
		if _, name, _ := link.New(l); name != "" {
			wantApart(t, []span{textSpan(name)}, handed)
		}
	}
}

// Sets do not hang on each other, nor on what was asked before.
func TestP94Apart(t *testing.T) {
	lists := append(fitting(), all())
	var sets []*link.Set
	var models []model
	for _, l := range lists {
		s, m := linked(t, l)
		sets, models = append(sets, s), append(models, m)
		link.New(faulty()[0])
	}
	for range 2 {
		for i, s := range sets {
			wantModel(t, s, models[i])
		}
	}
	s, m := linked(t, example())
	other := *s
	wantModel(t, &other, m)
	if c, is := s.Class(9); !is || !strings.HasPrefix(c.Name, "B") {
		t.Errorf("%s, %v", show(c), is)
	}
}

package class_test

import (
	"testing"

	"warpbeam/api"
	"warpbeam/class"
)

// changes are what makes another class of the rich one: each time one thing alone.
func changes() map[string]func(*api.Class) {
	return map[string]func(*api.Class){
		"a constant more":       func(c *api.Class) { c.Pool = append(c.Pool, api.Const{Kind: 3}) },
		"a constant fewer":      func(c *api.Class) { c.Pool = c.Pool[:9] },
		"no constants":          func(c *api.Class) { c.Pool = nil },
		"the first constant":    func(c *api.Class) { c.Pool[0].Kind = 1 },
		"a constant's Kind":     func(c *api.Class) { c.Pool[7].Kind = 3 },
		"a constant's Text":     func(c *api.Class) { c.Pool[9].Text += "x" },
		"a constant's N":        func(c *api.Class) { c.Pool[8].N = -2 },
		"a constant's A":        func(c *api.Class) { c.Pool[2].A = 3 },
		"a constant's B":        func(c *api.Class) { c.Pool[6].B = 3 },
		"a constant's C":        func(c *api.Class) { c.Pool[6].C = 3 },
		"Name":                  func(c *api.Class) { c.Name = "rich$1" },
		"no Name":               func(c *api.Class) { c.Name = "" },
		"Super":                 func(c *api.Class) { c.Super = "object" },
		"no Super":              func(c *api.Class) { c.Super = "" },
		"Interface":             func(c *api.Class) { c.Interface = true },
		"an interface":          func(c *api.Class) { c.Interfaces[2] = "I_1" },
		"interfaces' order":     func(c *api.Class) { c.Interfaces[0], c.Interfaces[1] = c.Interfaces[1], c.Interfaces[0] },
		"an interface more":     func(c *api.Class) { c.Interfaces = append(c.Interfaces, "J") },
		"an interface fewer":    func(c *api.Class) { c.Interfaces = c.Interfaces[:2] },
		"no interfaces":         func(c *api.Class) { c.Interfaces = nil },
		"a field's Static":      func(c *api.Class) { c.Fields[3].Static = true },
		"a field's Name":        func(c *api.Class) { c.Fields[0].Name = "xx" },
		"a field's Type's Kind": func(c *api.Class) { c.Fields[2].Type.Kind = 3 },
		"a field's Type's Name": func(c *api.Class) { c.Fields[3].Type.Name = "c" },
		"fields' order":         func(c *api.Class) { c.Fields[2], c.Fields[1] = c.Fields[1], c.Fields[2] },
		"a field more":          func(c *api.Class) { c.Fields = append(c.Fields, c.Fields[3]) },
		"a field fewer":         func(c *api.Class) { c.Fields = c.Fields[:3] },
		"no fields":             func(c *api.Class) { c.Fields = nil },
		"a method's Static":     func(c *api.Class) { c.Methods[4].Static = false },
		"a method's Abstract":   func(c *api.Class) { c.Methods[0].Abstract = false },
		"a method's Name":       func(c *api.Class) { c.Methods[0].Name = "n" },
		"a Ret's Kind":          func(c *api.Class) { c.Methods[2].Proto.Ret.Kind = 1 },
		"a Ret's Name":          func(c *api.Class) { c.Methods[3].Proto.Ret.Name = "bb" },
		"an arg's Kind":         func(c *api.Class) { c.Methods[2].Proto.Args[0].Kind = 1 },
		"an arg's Name":         func(c *api.Class) { c.Methods[2].Proto.Args[2].Name = "B" },
		"an arg more":           func(c *api.Class) { c.Methods[2].Proto.Args = append(c.Methods[2].Proto.Args, anInt) },
		"an arg fewer":          func(c *api.Class) { c.Methods[2].Proto.Args = c.Methods[2].Proto.Args[:2] },
		"no args":               func(c *api.Class) { c.Methods[2].Proto.Args = nil },
		"Stack":                 func(c *api.Class) { c.Methods[4].Stack = 1 },
		"Locals":                func(c *api.Class) { c.Methods[4].Locals = 1 },
		"a byte of Code":        func(c *api.Class) { c.Methods[1].Code[1] = 1 },
		"a byte more of Code":   func(c *api.Class) { c.Methods[1].Code = append(c.Methods[1].Code, 0) },
		"a byte fewer of Code":  func(c *api.Class) { c.Methods[1].Code = c.Methods[1].Code[:2] },
		"no Code":               func(c *api.Class) { c.Methods[1].Code = nil },
		"a handler's From":      func(c *api.Class) { c.Methods[4].Handlers[0].From = 3 },
		"a handler's To":        func(c *api.Class) { c.Methods[4].Handlers[0].To = 309 },
		"a handler's At":        func(c *api.Class) { c.Methods[4].Handlers[0].At = 308 },
		"a handler's Class":     func(c *api.Class) { c.Methods[4].Handlers[0].Class = 0 },
		"handlers' order": func(c *api.Class) {
			h := c.Methods[1].Handlers
			h[0], h[1] = h[1], h[0]
		},
		"a handler more":  func(c *api.Class) { c.Methods[1].Handlers = append(c.Methods[1].Handlers, api.Handler{}) },
		"a handler fewer": func(c *api.Class) { c.Methods[1].Handlers = c.Methods[1].Handlers[:1] },
		"no handlers":     func(c *api.Class) { c.Methods[1].Handlers = nil },
		"methods' order":  func(c *api.Class) { c.Methods[1], c.Methods[0] = c.Methods[0], c.Methods[1] },
		"a method more":   func(c *api.Class) { c.Methods = append(c.Methods, hollow) },
		"a method fewer":  func(c *api.Class) { c.Methods = c.Methods[:4] },
		"no methods":      func(c *api.Class) { c.Methods = nil },
	}
}

// wantSame holds Same against what it should answer, both ways.
func wantSame(t *testing.T, what string, a, b api.Class, want bool) {
	t.Helper()
	if class.Same(a, b) != want || class.Same(b, a) != want {
		t.Errorf("%s: Same: %t, %t; want %t", what, class.Same(a, b), class.Same(b, a), want)
	}
}

func TestP81SameOneThing(t *testing.T) {
	wantSame(t, "nothing", rich(), rich(), true)
	wantSame(t, "zero", api.Class{}, api.Class{}, true)
	for what, change := range changes() {
		other := with(rich(), change)
		if same(other, rich()) {
			t.Errorf("%s: nothing is changed", what)
		}
		wantSame(t, what, rich(), other, false)
		wantSame(t, what, other, with(rich(), change), true)
	}
}

func TestP81SameEachOther(t *testing.T) {
	classes := map[string]api.Class{"rich": rich(), "first": first(), "second": second(), "zero": {}}
	for what, change := range changes() {
		classes[what] = with(rich(), change)
	}
	for what, a := range classes {
		for other, b := range classes {
			wantSame(t, what+", "+other, a, b, what == other)
		}
	}
}

func TestP81SameOfNone(t *testing.T) {
	full := api.Class{Pool: []api.Const{}, Interfaces: []string{}, Fields: []api.Field{}, Methods: []api.Method{}}
	wantSame(t, "lists", full, api.Class{}, true)
	for what, change := range map[string]func(*api.Class){
		"Pool":       func(c *api.Class) { c.Pool = []api.Const{} },
		"Interfaces": func(c *api.Class) { c.Interfaces = []string{} },
		"Fields":     func(c *api.Class) { c.Fields = []api.Field{} },
		"Methods":    func(c *api.Class) { c.Methods = []api.Method{} },
		"room":       func(c *api.Class) { c.Interfaces = make([]string, 0, 9) },
	} {
		wantSame(t, what, api.Class{}, with(api.Class{}, change), true)
	}
	for what, change := range map[string]func(*api.Method){
		"Args":     func(m *api.Method) { m.Proto.Args = []api.Type{} },
		"Code":     func(m *api.Method) { m.Code = []byte{} },
		"Handlers": func(m *api.Method) { m.Handlers = []api.Handler{} },
	} {
		for _, m := range []api.Method{{}, hollow} {
			c := ofMethod(m, func(m *api.Method) {})
			wantSame(t, what, c, ofMethod(m, change), true)
			if c.Methods[0].Name != "" {
				wantMay(t, ofMethod(m, change))
			}
		}
	}
	wantMay(t, with(full, func(c *api.Class) { c.Pool, c.Name = []api.Const{{}}, "a" }))
}

package class_test

import (
	"bytes"
	"math"
	"slices"
	"strings"
	"testing"

	"warpbeam/api"
	"warpbeam/class"
	"warpbeam/ops"
)

var (
	anInt  = api.Type{Kind: api.KindInt}
	aLong  = api.Type{Kind: api.KindLong}
	aRef   = api.Type{Kind: api.KindRef, Name: "b"}
	someB  = api.Type{Kind: api.KindRefs, Name: "b"}
	plain  = api.Method{Name: "m", Code: []byte{ops.OpReturn}}
	hollow = api.Method{Abstract: true, Name: "m"}
)

// first is the chapter's first example, second its second one.
func first() api.Class { return api.Class{Pool: []api.Const{{}}, Name: "a"} }

func second() api.Class {
	return api.Class{
		Pool: []api.Const{{}}, Name: "a", Super: "b", Interface: true,
		Fields: []api.Field{{Static: true, Name: "x", Type: anInt}}, Methods: []api.Method{hollow},
	}
}

func firstBytes() []byte {
	return []byte{0x57, 0x42, 1, 1, 0, 1, 0x61, 0, 0, 0, 0}
}

func secondBytes() []byte {
	return []byte{0x57, 0x42, 1, 1, 1, 1, 0x61, 1, 0x62, 0, 1, 1, 1, 0x78, 1, 0x49, 1, 2, 1, 0x6D, 3, 0x28, 0x29, 0x56}
}

// consts are constants of each kind: a text at 1, a class at 2, a field at 4, a method at 6, an int at 7, a long at 8.
func consts() []api.Const {
	return []api.Const{
		{}, {Kind: 1, Text: "b"}, {Kind: 4, A: 1}, {Kind: 1, Text: "I"}, {Kind: 5, A: 2, B: 1, C: 3},
		{Kind: 1, Text: "()V"}, {Kind: 6, A: 2, B: 1, C: 5}, {Kind: 2, N: 70000}, {Kind: 3, N: -1}, {Kind: 1, Text: "\x00\u20AC\U00010000"},
	}
}

// rich is a class with some of all.
func rich() api.Class {
	return api.Class{
		Pool: consts(), Name: "Rich$1", Super: "Object", Interfaces: []string{"I_1", "J", "J"},
		Fields: []api.Field{{Static: true, Name: "x", Type: anInt}, {Name: "y", Type: aLong}, {Name: "z", Type: someB}, {Name: "x", Type: aRef}},
		Methods: []api.Method{
			hollow,
			{Static: true, Name: "f", Proto: api.Proto{Ret: anInt, Args: []api.Type{anInt}}, Stack: 1, Locals: 1, Code: []byte{5, 0, 0x53}, Handlers: []api.Handler{{From: 0, To: 2, At: 2}, {From: 2, To: 3, At: 0, Class: 2}}},
			{Name: "g", Proto: api.Proto{Ret: aLong, Args: []api.Type{aLong, someB, aRef}}, Stack: 255, Locals: 200, Code: []byte{3, 0, 8, 0x54}},
			{Abstract: true, Name: "f", Proto: api.Proto{Ret: someB}},
			{Static: true, Name: "h", Code: slices.Concat([]byte{61, 0, 4, 79, 0, 6, 65, 0, 2}, make([]byte, 300), []byte{86}), Handlers: []api.Handler{{From: 0, To: 310, At: 309, Class: 2}}},
		},
	}
}

func richBytes() []byte {
	return slices.Concat(
		[]byte{'W', 'B', 1},
		[]byte{10, 1, 1, 'b', 4, 1, 1, 1, 'I', 5, 2, 1, 3, 1, 3, '(', ')', 'V', 6, 2, 1, 5, 2, 0xF0, 0xA2, 4, 3, 0x7F, 1, 11, 0xC0, 0x80, 0xE2, 0x82, 0xAC, 0xED, 0xA0, 0x80, 0xED, 0xB0, 0x80},
		[]byte("\x00\x06Rich$1\x06Object\x03\x03I_1\x01J\x01J"),
		[]byte("\x04\x01\x01x\x01I\x00\x01y\x01J\x00\x01z\x04[Lb;\x00\x01x\x03Lb;"),
		[]byte("\x05\x02\x01m\x03()V"),
		[]byte("\x01\x01f\x04(I)I\x01\x01\x03\x05\x00\x53\x02\x00\x02\x02\x00\x02\x03\x00\x02"),
		[]byte("\x00\x01g\x0b(J[Lb;Lb;)J\xff\x01\xc8\x01\x04\x03\x00\x08\x54\x00"),
		[]byte("\x02\x01f\x06()[Lb;"),
		[]byte("\x01\x01h\x03()V\x00\x00\xb6\x02\x3d\x00\x04\x4f\x00\x06\x41\x00\x02"), make([]byte, 300), []byte("\x56\x01\x00\xb6\x02\xb5\x02\x02"),
	)
}

// examples are classes, and their bytes, written out by the chapter's words.
func examples() ([]api.Class, [][]byte) {
	return []api.Class{first(), second(), rich()}, [][]byte{firstBytes(), secondBytes(), richBytes()}
}

// with is a class in which something is changed.
func with(c api.Class, change func(*api.Class)) api.Class {
	change(&c)
	return c
}

// ofMethod is a class that has one method alone, in which something is changed, and constants of each kind.
func ofMethod(m api.Method, change func(*api.Method)) api.Class {
	change(&m)
	return api.Class{Pool: consts(), Name: "a", Methods: []api.Method{m}}
}

func notNames() []string {
	return []string{"1", "1a", "a-b", "a b", "a;", "La;", "[I", "a.b", "a/b", "\u00E9", "a\u00E9", "\x00", "a\x00", "\xFF", "@", "`", "{", "/", ":", strings.Repeat("a", 65), strings.Repeat("a", 1000)}
}

func names() []string {
	return []string{"a", "z", "A", "Z", "_", "$", "a0", "a9", "_1$", strings.Repeat("a", 63), strings.Repeat("Z9", 32)}
}

func notTypes() []api.Type {
	return []api.Type{{}, {Name: "b"}, {Kind: -1}, {Kind: 7}, {Kind: 257}, {Kind: 1, Name: "b"}, {Kind: 2, Name: "b"}, {Kind: 4, Name: "b"}, {Kind: 5, Name: "b"}, {Kind: 3}, {Kind: 6}, {Kind: 3, Name: "1"}, {Kind: 6, Name: "a;"}}
}

func types() []api.Type {
	return []api.Type{anInt, aLong, aRef, someB, {Kind: api.KindInts}, {Kind: api.KindLongs}, {Kind: 6, Name: strings.Repeat("n", 64)}}
}

func TestP81Examples(t *testing.T) {
	classes, rows := examples()
	for i, c := range classes {
		if b, e := class.Bytes(c); !bytes.Equal(b, rows[i]) || e != api.OK {
			t.Errorf("Bytes(%s): %x, %d; want %x", show(c), b, e, rows[i])
		}
		if e := class.Check(c); e != api.OK {
			t.Errorf("Check(%s): %d", show(c), e)
		}
		wantMay(t, c)
	}
}

func TestP81Pool(t *testing.T) {
	for _, l := range [][]api.Const{
		nil, {}, {{Kind: 1}}, {{N: 1}}, {{Text: "x"}}, {{}, {}}, {{}, {Kind: 7}}, {{}, {Kind: 1, Text: "\xFF"}}, {{}, {Kind: 1, N: 1}}, {{}, {Kind: 2, N: 1 << 31}},
		{{}, {Kind: 4, A: 1}}, {{}, {Kind: 4, A: 2}}, {{}, {Kind: 5, A: 1, B: 1, C: 1}}, append(consts(), api.Const{Kind: 4, A: 2}), make([]api.Const, 4097),
		append([]api.Const{{}}, slices.Repeat([]api.Const{{Kind: 3}}, 4096)...),
	} {
		for _, c := range []api.Class{first(), second(), rich()} {
			wantMayNot(t, with(c, func(c *api.Class) { c.Pool = l }))
		}
	}
	for _, size := range []int{1, 127, 128, 4095, 4096} {
		l := append([]api.Const{{}}, slices.Repeat([]api.Const{{Kind: 3}}, size-1)...)
		wantMay(t, with(second(), func(c *api.Class) { c.Pool = l }))
	}
	// A constant of a class may have any text: it is no name of this class.
	wantMay(t, with(first(), func(c *api.Class) { c.Pool = []api.Const{{}, {Kind: 1, Text: "1 \x00"}, {Kind: 4, A: 1}} }))
}

func TestP81Names(t *testing.T) {
	for _, c := range []api.Class{first(), second(), rich()} {
		for _, s := range append(notNames(), "") {
			wantMayNot(t, with(c, func(c *api.Class) { c.Name = s }))
			wantMayNot(t, with(c, func(c *api.Class) { c.Interfaces = []string{s} }))
			wantMayNot(t, with(c, func(c *api.Class) { c.Interfaces = []string{"a", "b", s} }))
			wantMayNot(t, with(c, func(c *api.Class) { c.Interfaces = []string{s, "a", "b"} }))
		}
		for _, s := range notNames() {
			wantMayNot(t, with(c, func(c *api.Class) { c.Super = s }))
		}
		for _, s := range names() {
			wantMay(t, with(c, func(c *api.Class) { c.Name, c.Super, c.Interfaces = s, s, []string{s, s} }))
		}
		wantMay(t, with(c, func(c *api.Class) { c.Super = "" }))
		wantMay(t, with(c, func(c *api.Class) { c.Interface = !c.Interface }))
	}
}

func TestP81HowMany(t *testing.T) {
	for _, c := range []api.Class{first(), second(), rich()} {
		for _, size := range []int{0, 1, 63, 64, 65, 66, 256, 1000} {
			many := with(c, func(c *api.Class) { c.Interfaces = slices.Repeat([]string{"i"}, size) })
			wantIf(t, size <= 64, many)
		}
		for _, size := range []int{0, 1, 64, 65, 127, 128, 255, 256, 257, 258, 5000} {
			many := with(c, func(c *api.Class) { c.Fields = slices.Repeat([]api.Field{{Name: "f", Type: aLong}}, size) })
			wantIf(t, size <= 256, many)
			for _, m := range []api.Method{plain, hollow} {
				many = with(c, func(c *api.Class) { c.Methods = slices.Repeat([]api.Method{m}, size) })
				wantIf(t, size <= 256, many)
			}
		}
	}
	full := with(rich(), func(c *api.Class) {
		c.Interfaces = slices.Repeat([]string{"i"}, 64)
		c.Fields = slices.Repeat([]api.Field{{Name: "f", Type: aLong}}, 256)
		c.Methods = slices.Repeat([]api.Method{plain, hollow}, 128)
	})
	wantMay(t, full)
}

// wantIf tells that a class may be, or may not.
func wantIf(t *testing.T, is bool, c api.Class) {
	t.Helper()
	if is {
		wantMay(t, c)
		return
	}
	wantMayNot(t, c)
}

func TestP81Fields(t *testing.T) {
	for at := range rich().Fields {
		change := func(what func(*api.Field)) api.Class {
			return with(rich(), func(c *api.Class) { what(&c.Fields[at]) })
		}
		for _, s := range append(notNames(), "") {
			wantMayNot(t, change(func(f *api.Field) { f.Name = s }))
		}
		for _, typ := range notTypes() {
			wantMayNot(t, change(func(f *api.Field) { f.Type = typ }))
		}
		for _, s := range names() {
			wantMay(t, change(func(f *api.Field) { f.Name = s }))
		}
		for _, typ := range types() {
			wantMay(t, change(func(f *api.Field) { f.Type = typ }))
		}
		wantMay(t, change(func(f *api.Field) { f.Static = !f.Static }))
	}
}

func TestP81Methods(t *testing.T) {
	for at := range rich().Methods {
		change := func(what func(*api.Method)) api.Class {
			return with(rich(), func(c *api.Class) { what(&c.Methods[at]) })
		}
		for _, s := range append(notNames(), "") {
			wantMayNot(t, change(func(m *api.Method) { m.Name = s }))
		}
		for _, typ := range notTypes() {
			wantIf(t, typ == api.Type{}, change(func(m *api.Method) { m.Proto.Ret = typ }))
			wantMayNot(t, change(func(m *api.Method) { m.Proto.Args = []api.Type{typ} }))
			wantMayNot(t, change(func(m *api.Method) { m.Proto.Args = []api.Type{anInt, typ, aLong} }))
			wantMayNot(t, change(func(m *api.Method) { m.Proto.Args = append(slices.Repeat(types(), 3)[:15], typ) }))
		}
		for _, s := range names() {
			wantMay(t, change(func(m *api.Method) { m.Name = s }))
		}
		for _, typ := range types() {
			wantMay(t, change(func(m *api.Method) { m.Proto = api.Proto{Ret: typ, Args: []api.Type{typ, typ}} }))
		}
		for _, size := range []int{0, 1, 15, 16, 17, 300} {
			wantIf(t, size <= 16, change(func(m *api.Method) { m.Proto.Args = slices.Repeat([]api.Type{aLong}, size) }))
		}
	}
}

func TestP81Abstract(t *testing.T) {
	wantMay(t, ofMethod(hollow, func(m *api.Method) {}))
	wantMay(t, ofMethod(hollow, func(m *api.Method) { m.Code, m.Handlers = []byte{}, []api.Handler{} }))
	for _, n := range []int{-1, 1, 2, 255, 256, 1 << 32, math.MinInt64, math.MaxInt64} {
		wantMayNot(t, ofMethod(hollow, func(m *api.Method) { m.Stack = n }))
		wantMayNot(t, ofMethod(hollow, func(m *api.Method) { m.Locals = n }))
	}
	for _, change := range []func(*api.Method){
		func(m *api.Method) { m.Static = true },
		func(m *api.Method) { m.Code = []byte{ops.OpReturn} },
		func(m *api.Method) { m.Code = []byte{0} },
		func(m *api.Method) { m.Handlers = []api.Handler{{}} },
		func(m *api.Method) { m.Handlers = []api.Handler{{To: 1}} },
		func(m *api.Method) { *m = plain; m.Abstract = true },
		func(m *api.Method) { *m = plain; m.Abstract, m.Static, m.Locals = true, true, 1 },
	} {
		wantMayNot(t, ofMethod(hollow, change))
	}
	for at, m := range rich().Methods {
		wantMayNot(t, with(rich(), func(c *api.Class) { c.Methods[at].Abstract = !m.Abstract }))
		wantIf(t, !m.Abstract, with(rich(), func(c *api.Class) { c.Methods[at].Static = !m.Static }))
	}
}

func TestP81Code(t *testing.T) {
	for _, b := range [][]byte{nil, {}, {0}, {0x5A}, {5}, {5, 0}, {86, 0}, {58, 0, 1}, {58, 0xFF, 0xFF}, {86, 58, 0xFF}, make([]byte, 8192), append(make([]byte, 8192), 86), make([]byte, 65535)} {
		wantMayNot(t, ofMethod(plain, func(m *api.Method) { m.Code = b }))
		wantMayNot(t, ofMethod(plain, func(m *api.Method) { m.Code, m.Static = b, true }))
	}
	for _, b := range [][]byte{{86}, {0, 86}, {58, 0, 0}, append(make([]byte, 127), 86), append(make([]byte, 8191), 86)} {
		wantMay(t, ofMethod(plain, func(m *api.Method) { m.Code = b }))
		wantMay(t, ofMethod(plain, func(m *api.Method) { m.Code, m.Static = b, true }))
	}
	for _, n := range []int{-1, 0, 1, 127, 128, 254, 255, 256, 257, 1 << 32, math.MinInt64, math.MaxInt64} {
		wantIf(t, n >= 0 && n <= 255, ofMethod(plain, func(m *api.Method) { m.Stack = n }))
		wantIf(t, n >= 0 && n <= 255, ofMethod(plain, func(m *api.Method) { m.Locals = n }))
		wantIf(t, n >= 1 && n <= 255, ofMethod(plain, func(m *api.Method) { m.Locals, m.Code = n, []byte{5, 0, 86} }))
		wantIf(t, n >= 128 && n <= 255, ofMethod(plain, func(m *api.Method) { m.Locals, m.Code = n, []byte{6, 126, 86} }))
	}
}

// Constants are looked up in the class's own Pool, at their own places.
func TestP81OwnPool(t *testing.T) {
	for op := range ops.LastOp + 1 {
		if ops.Shape(op) != ops.ShapePool {
			continue
		}
		good := 0
		for i := range len(consts()) + 2 {
			c := ofMethod(plain, func(m *api.Method) { m.Code = []byte{byte(op), 0, byte(i), 86} })
			if may(c) {
				good++
			}
			wantIf(t, may(c), c)
			c.Pool = []api.Const{{}}
			wantMayNot(t, c)
			c.Pool = append([]api.Const{{}}, slices.Repeat([]api.Const{{Kind: 2, N: 5}}, 20)...)
			wantIf(t, op == ops.OpLdc && i > 0, c)
		}
		if good == 0 || good > 2 {
			t.Errorf("%s: %d constants are such as it needs", ops.Name(op), good)
		}
	}
	for i := -1; i < len(consts())+1; i++ {
		c := ofMethod(plain, func(m *api.Method) { m.Handlers = []api.Handler{{To: 1, Class: i}} })
		wantIf(t, i == 0 || i == 2, c)
		c.Pool = []api.Const{{}}
		wantIf(t, i == 0, c)
	}
}

func TestP81Handlers(t *testing.T) {
	three := []byte{5, 0, 83} // begins at 0 and 2
	numbers := []int{-1, 0, 1, 2, 3, 4, math.MaxInt64}
	for _, from := range numbers {
		for _, to := range numbers {
			for _, at := range numbers {
				h := api.Handler{From: from, To: to, At: at}
				c := ofMethod(plain, func(m *api.Method) { m.Locals, m.Code, m.Handlers = 1, three, []api.Handler{{To: 2}, h} })
				good := (from == 0 || from == 2) && (to == 2 || to == 3) && to > from && (at == 0 || at == 2)
				wantIf(t, good, c)
			}
		}
	}
	for _, size := range []int{0, 1, 127, 128, 255, 256, 257, 1000} {
		wantIf(t, size <= 256, ofMethod(plain, func(m *api.Method) { m.Handlers = slices.Repeat([]api.Handler{{To: 1}}, size) }))
	}
}

// ofSize is a class with so many bytes, at least 200.
func ofSize(t *testing.T, size int) api.Class {
	t.Helper()
	c := with(second(), func(c *api.Class) { c.Pool = []api.Const{{}, {Kind: 1}} })
	c.Pool[1].Text = strings.Repeat("t", 150)
	c.Pool[1].Text += strings.Repeat("t", size-len(spelt(pieces(c))))
	for len(spelt(pieces(c))) > size {
		c.Pool[1].Text = c.Pool[1].Text[1:]
	}
	if len(spelt(pieces(c))) != size {
		t.Fatalf("no class of %d bytes", size)
	}
	return c
}

func TestP81Length(t *testing.T) {
	for _, size := range []int{200, 65533, 65534, 65535} {
		c := ofSize(t, size)
		if b, e := class.Bytes(c); len(b) != size || e != api.OK {
			t.Errorf("Bytes of a class with %d bytes: %d, %d", size, len(b), e)
		}
		wantMay(t, c)
	}
	for _, size := range []int{65536, 65537, 131072, 1 << 20} {
		c := ofSize(t, size)
		if b, e := class.Bytes(c); len(b) != 0 || e != api.ErrLimit || class.Check(c) != api.OK {
			t.Errorf("Bytes of a class with %d bytes: %d, %d", size, len(b), e)
		}
		wantMay(t, c)
		wantParsed(t, spelt(pieces(c)))
		// What may not be is told ahead of what is too long.
		wantMayNot(t, with(c, func(c *api.Class) { c.Name = "" }))
		wantMayNot(t, with(c, func(c *api.Class) { c.Methods = []api.Method{{Abstract: true, Static: true, Name: "m"}} }))
	}
	// Too long by its methods, its fields, its handlers.
	most := api.Method{Name: "m", Code: append(make([]byte, 8191), 86)}
	wantMay(t, with(first(), func(c *api.Class) { c.Methods = slices.Repeat([]api.Method{most}, 7) }))
	wantMay(t, with(first(), func(c *api.Class) { c.Methods = slices.Repeat([]api.Method{most}, 8) }))
	handled := api.Method{Name: "m", Code: []byte{86}, Handlers: slices.Repeat([]api.Handler{{To: 1}}, 256)}
	wantMay(t, with(first(), func(c *api.Class) { c.Methods = slices.Repeat([]api.Method{handled}, 63) }))
	wantMay(t, with(first(), func(c *api.Class) { c.Methods = slices.Repeat([]api.Method{handled}, 64) }))
	wide := api.Field{Name: strings.Repeat("f", 64), Type: api.Type{Kind: 6, Name: strings.Repeat("t", 64)}}
	args := api.Method{Abstract: true, Name: strings.Repeat("m", 64), Proto: api.Proto{Args: slices.Repeat([]api.Type{wide.Type}, 16)}}
	wantMay(t, with(first(), func(c *api.Class) { c.Fields = slices.Repeat([]api.Field{wide}, 256) }))
	wantMay(t, with(first(), func(c *api.Class) { c.Methods = slices.Repeat([]api.Method{args}, 57) }))
	wantMay(t, with(first(), func(c *api.Class) { c.Methods = slices.Repeat([]api.Method{args}, 60) }))
}

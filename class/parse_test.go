package class_test

import (
	"bytes"
	"slices"
	"strings"
	"testing"

	"warpbeam/api"
	"warpbeam/class"
	"warpbeam/ops"
)

func TestP82Examples(t *testing.T) {
	classes, rows := examples()
	for i, b := range rows {
		if c, e := class.Parse(b); !same(c, classes[i]) || !class.Same(c, classes[i]) || e != api.OK {
			t.Errorf("Parse(%x): %s, %d; want %s", b, show(c), e, show(classes[i]))
		}
		if !wantParsed(t, b) {
			t.Errorf("the model says that %x are no class's", b)
		}
	}
}

func TestP82Length(t *testing.T) {
	wantNone(t, nil)
	wantNone(t, []byte{})
	if _, e := class.Parse(nil); e != api.ErrClass {
		t.Errorf("Parse(none): %d", e)
	}
	long := spelt(pieces(ofSize(t, 65535)))
	if c, e := class.Parse(long); e != api.OK || !same(c, ofSize(t, 65535)) {
		t.Errorf("Parse of a class of 65535 bytes: %s, %d", show(c), e)
	}
	for size, want := range map[int]api.Errno{1: 80, 2: 80, 3: 80, 65534: 80, 65535: 80, 65536: 5, 65537: 5, 131072: 5, 1 << 20: 5} {
		for _, start := range [][]byte{nil, firstBytes(), richBytes(), {0x57, 0x42, 1}} {
			b := append(slices.Clone(start), make([]byte, size)...)[:size]
			if c, e := class.Parse(b); !same(c, api.Class{}) || e != want {
				t.Errorf("Parse of %d bytes: %s, %d; want %d", size, show(c), e, want)
			}
		}
	}
	// What is too long is told ahead of what is no class's, and of what would be one's but for that.
	for _, b := range [][]byte{append(slices.Clone(long), 0), append([]byte{0}, long...), spelt(pieces(ofSize(t, 65536)))} {
		if c, e := class.Parse(b); !same(c, api.Class{}) || e != api.ErrLimit {
			t.Errorf("Parse of %d bytes: %s, %d", len(b), show(c), e)
		}
	}
}

func TestP82EachByteChanged(t *testing.T) {
	_, rows := examples()
	for _, b := range rows {
		good := 0
		for at, was := range b {
			// Within the nops of the last example one byte is as good as another.
			if at > 0 && at < len(b)-1 && was == 0 && b[at-1] == 0 && b[at+1] == 0 && at%32 != 0 {
				continue
			}
			for n := range 256 {
				other := slices.Clone(b)
				other[at] = byte(n)
				if byte(n) != was && wantParsed(t, other) {
					good++
				}
			}
		}
		if good == 0 {
			t.Errorf("no change of a byte makes another class of %x", b)
		}
	}
	for n := range 256 {
		for at, right := range []byte{0x57, 0x42, 1} {
			b := firstBytes()
			b[at] = byte(n)
			if _, e := class.Parse(b); (e == api.OK) != (byte(n) == right) {
				t.Errorf("Parse(%x): %d", b, e)
			}
		}
	}
}

// each goes through the numbers of the examples, each in its place: bytes may be spelt with other ones there.
func each(is string, one func(x piece, spelt func(other []byte) []byte)) (found int) {
	for _, c := range []api.Class{first(), second(), rich()} {
		p := pieces(c)
		for i, x := range p {
			if x.what != "" && strings.HasPrefix(x.what, is) {
				found++
				one(x, func(other []byte) []byte { return speltBut(p, i, other) })
			}
		}
	}
	return found
}

func TestP82Longer(t *testing.T) {
	found := each("", func(x piece, spelt func([]byte) []byte) {
		if !wantParsed(t, spelt(short(x.n))) {
			t.Errorf("%s %d: as it was, it is no class", x.what, x.n)
		}
		wantNone(t, spelt(long(x.n)))
		wantNone(t, spelt(nil))
		for more := 1; more < 9; more++ {
			b := bytes.Repeat([]byte{0x80}, more)
			b[0] += byte(x.n % 128)
			wantNone(t, spelt(append(b, 0)))
			wantNone(t, spelt(b))
		}
	})
	if found != 14+12+34+18 {
		t.Errorf("%d numbers", found)
	}
}

func TestP82Marks(t *testing.T) {
	found := each("mark", func(x piece, spelt func([]byte) []byte) {
		for n := range 400 {
			wantParsed(t, spelt(short(n)))
			if n > 2 {
				wantNone(t, spelt(short(n)))
			}
		}
	})
	if found != 3+5+6 {
		t.Errorf("%d marks", found)
	}
	for at, most := range map[int]int{4: 1, 11: 1, 17: 2} {
		for n := range 256 {
			b := secondBytes()
			b[at] = byte(n)
			if _, e := class.Parse(b); n > most && e != api.ErrClass {
				t.Errorf("Parse(%x): %d", b, e)
			}
		}
	}
}

func TestP82HowMany(t *testing.T) {
	found := each("count", func(x piece, spelt func([]byte) []byte) {
		for _, n := range []int{x.n + 1, x.n - 1, x.n + 2, x.n + 128, 64, 65, 127, 128, 255, 256, 257, 16384, 1 << 31, 1<<32 + x.n, 1<<53 - 1, 1 << 53, 1<<56 - 1} {
			if n < 0 {
				continue
			}
			wantNone(t, spelt(short(n)))
		}
	})
	if found != 9+3 {
		t.Errorf("%d counts", found)
	}
}

func TestP82PastTheEnd(t *testing.T) {
	found := each("length", func(x piece, spelt func([]byte) []byte) {
		for _, n := range []int{x.n + 1, x.n - 1, 127, 128, 1000, 65535, 65536, 1 << 31, 1<<32 + x.n, 1<<53 - 1, 1 << 53} {
			if n < 0 || n == x.n {
				continue
			}
			wantParsed(t, spelt(short(n)))
			if n >= 1000 {
				wantNone(t, spelt(short(n)))
			}
		}
	})
	if found != 2+6+26 {
		t.Errorf("%d lengths", found)
	}
	// The last length, the last count of a class.
	for _, n := range []int{2, 3, 100, 65535, 1<<53 - 1} {
		p := append(pieces(second()), piece{})
		wantNone(t, speltBut(p, len(p)-3, short(n+3)))
	}
}

func TestP82Numbers(t *testing.T) {
	found := each("number", func(x piece, spelt func([]byte) []byte) {
		for _, n := range []int{0, 1, 2, 3, 127, 128, 200, 255, 256, 310, 311, 1 << 16, 1 << 32, 1<<32 + x.n, 1<<53 - 1, 1 << 53, 1<<56 - 1} {
			wantParsed(t, spelt(short(n)))
			if n > 310 {
				wantNone(t, spelt(short(n)))
			}
		}
	})
	if found != 3*2+3*4 {
		t.Errorf("%d numbers", found)
	}
}

// Past what there may be, each of the things stands there as it must, but there are too many.
func TestP82TooMany(t *testing.T) {
	for _, d := range []int{0, 1, 2, 100} {
		for _, c := range []api.Class{first(), second(), rich()} {
			for _, change := range []func(*api.Class){
				func(c *api.Class) { c.Interfaces = slices.Repeat([]string{"i"}, 64+d) },
				func(c *api.Class) { c.Fields = slices.Repeat([]api.Field{{Name: "f", Type: anInt}}, 256+d) },
				func(c *api.Class) { c.Methods = slices.Repeat([]api.Method{plain}, 256+d) },
				func(c *api.Class) { c.Methods = slices.Repeat([]api.Method{hollow}, 256+d) },
				func(c *api.Class) {
					c.Methods = []api.Method{plain}
					c.Methods[0].Handlers = slices.Repeat([]api.Handler{{To: 1}}, 256+d)
				},
				func(c *api.Class) {
					c.Methods = []api.Method{hollow}
					c.Methods[0].Proto.Args = slices.Repeat([]api.Type{anInt}, 16)
				},
			} {
				b := spelt(pieces(with(c, change)))
				if wantParsed(t, b) != (d == 0 || len(with(c, change).Methods) == 1 && len(with(c, change).Methods[0].Proto.Args) == 16) {
					t.Errorf("%d more than there may be: %.100x", d, b)
				}
			}
		}
	}
	args := slices.Concat(firstBytes()[:10], []byte{1, 2, 1, 'm', 20, '('}, bytes.Repeat([]byte{'I'}, 17), []byte(")V"))
	wantNone(t, args)
	args[14] = 19
	wantNone(t, append(args[:15], args[16:]...)) // without its (
	if !wantParsed(t, slices.Concat(firstBytes()[:10], []byte{1, 2, 1, 'm', 19, '('}, bytes.Repeat([]byte{'I'}, 16), []byte(")V"))) {
		t.Error("a method that takes 16 ints may be")
	}
}

func TestP82MayNotBe(t *testing.T) {
	for _, s := range append(notNames(), "") {
		for _, change := range []func(*api.Class){
			func(c *api.Class) { c.Name = s },
			func(c *api.Class) { c.Interfaces = []string{"a", s} },
			func(c *api.Class) { c.Fields[1].Name = s },
			func(c *api.Class) { c.Methods[0].Name = s },
			func(c *api.Class) { c.Methods[1].Name = s },
		} {
			wantNone(t, spelt(pieces(with(rich(), change))))
		}
		if s != "" {
			wantNone(t, spelt(pieces(with(rich(), func(c *api.Class) { c.Super = s }))))
		}
	}
	for _, change := range []func(*api.Class){
		func(c *api.Class) { c.Pool = c.Pool[:1] },
		func(c *api.Class) { c.Pool = c.Pool[:6] },
		func(c *api.Class) { c.Methods[1].Locals = 0 },
		func(c *api.Class) { c.Methods[1].Locals = 256 },
		func(c *api.Class) { c.Methods[1].Stack = 256 },
		func(c *api.Class) { c.Methods[1].Code = nil },
		func(c *api.Class) { c.Methods[1].Code = []byte{0} },
		func(c *api.Class) { c.Methods[2].Code = []byte{3, 0, 6, 0x54} },
		func(c *api.Class) { c.Methods[2].Code = append(make([]byte, 8192), ops.OpReturn) },
		func(c *api.Class) { c.Methods[1].Handlers[0].From = 1 },
		func(c *api.Class) { c.Methods[1].Handlers[0].To = 4 },
		func(c *api.Class) { c.Methods[1].Handlers[0].At = 1 },
		func(c *api.Class) { c.Methods[1].Handlers[1].Class = 1 },
	} {
		wantNone(t, spelt(pieces(with(rich(), change))))
	}
}

func TestP82TypesTexts(t *testing.T) {
	field := func(s string) []byte {
		return slices.Concat(firstBytes()[:9], []byte{1, 0, 1, 'x', byte(len(s))}, []byte(s), []byte{0})
	}
	method := func(s string) []byte {
		return slices.Concat(firstBytes()[:10], []byte{1, 2, 1, 'm', byte(len(s))}, []byte(s))
	}
	for s, good := range map[string]int{
		"I": 1, "J": 1, "La;": 1, "[I": 1, "[J": 1, "[La;": 1, "L" + strings.Repeat("n", 64) + ";": 1,
		"": 0, "V": 0, "i": 0, "II": 0, "[": 0, "[[I": 0, "[V": 0, "L;": 0, "La": 0, "L1;": 0, "La;;": 0, "I ": 0, "\x00": 0, "()V": 0, "\xFF": 0, "L" + strings.Repeat("n", 65) + ";": 0,
	} {
		if wantParsed(t, field(s)) != (good == 1) {
			t.Errorf("a field of type %q", s)
		}
		if wantParsed(t, method("("+s+")V")) != (good == 1 || s == "" || s == "II") {
			t.Errorf("a method that takes %q", s)
		}
		if wantParsed(t, method("()"+s)) != (good == 1 || s == "V") {
			t.Errorf("a method that answers %q", s)
		}
	}
	for _, s := range []string{"", "(", ")", "V", "(V)V", "()", "()VV", "()V ", " ()V", ")V", "(I", "(I)", "()I()V", "(()V)V"} {
		wantNone(t, method(s))
	}
}

// An error stands alone.
func TestP82Alone(t *testing.T) {
	_, rows := examples()
	for _, b := range rows {
		for size := range b {
			if c, e := class.Parse(b[:size]); !same(c, api.Class{}) || e != api.ErrClass {
				t.Errorf("Parse(%x): %s, %d", b[:size], show(c), e)
			}
		}
	}
	if c, e := class.Parse(make([]byte, 65536)); !same(c, api.Class{}) || e != api.ErrLimit {
		t.Errorf("Parse of 65536 bytes: %s, %d", show(c), e)
	}
}

// some is a class that may be, rolled.
func some(d *dice) api.Class {
	c := api.Class{Pool: consts(), Name: someName(d), Interface: d.roll(2) == 1}
	for range pick(d, 0, 0, 5, 130) {
		c.Pool = append(c.Pool, pick(d, api.Const{Kind: 1, Text: pick(d, "", "x", "\u20AC", strings.Repeat("long", d.roll(80)))}, api.Const{Kind: 2, N: d.roll(1<<20) - 1<<19}, api.Const{Kind: 3, N: int(d.state)}, api.Const{Kind: 4, A: pick(d, 1, 3, 5, 9)}))
	}
	if d.roll(3) > 0 {
		c.Super = someName(d)
	}
	for range pick(d, 0, 1, 2, d.roll(65)) {
		c.Interfaces = append(c.Interfaces, someName(d))
	}
	for range pick(d, 0, 1, 5, d.roll(257)) {
		c.Fields = append(c.Fields, api.Field{Static: d.roll(2) == 1, Name: someName(d), Type: pick(d, types()...)})
	}
	for range pick(d, 0, 1, 5, d.roll(257)) {
		c.Methods = append(c.Methods, someMethod(d))
	}
	return c
}

func someName(d *dice) string { return pick(d, names()...) }

func someMethod(d *dice) api.Method {
	m := api.Method{Abstract: d.roll(3) == 0, Name: someName(d)}
	if d.roll(2) == 0 {
		m.Proto.Ret = pick(d, types()...)
	}
	for range pick(d, 0, 0, 1, d.roll(17)) {
		m.Proto.Args = append(m.Proto.Args, pick(d, types()...))
	}
	if m.Abstract {
		return m
	}
	m.Static, m.Stack, m.Locals = d.roll(2) == 1, d.roll(256), d.roll(256)
	starts := []int{}
	for range 1 + d.roll(20) {
		starts = append(starts, len(m.Code))
		m.Code = append(m.Code, pick(d, []byte{0}, []byte{0}, []byte{1, 7, 7}, []byte{3, 0, 7}, []byte{3, 0, 8}, []byte{61, 0, 4}, []byte{82, 0, 6}, []byte{65, 0, 2}, []byte{42, 0, 0})...)
	}
	starts = append(starts, len(m.Code))
	m.Code = append(m.Code, pick[byte](d, 78, 83, 84, 85, 86))
	for range pick(d, 0, 0, 1, d.roll(10)) {
		i := d.roll(len(starts) - 1)
		m.Handlers = append(m.Handlers, api.Handler{From: starts[i], To: starts[i+1+d.roll(len(starts)-1-i)], At: pick(d, starts...), Class: pick(d, 0, 2)})
	}
	return m
}

func TestP84WrittenIsRead(t *testing.T) {
	d := &dice{state: 1}
	fits := 0
	for range 600 {
		c := some(d)
		wantMay(t, c)
		b, e := class.Bytes(c)
		if e != api.OK {
			continue
		}
		fits++
		got, e := class.Parse(b)
		if e != api.OK || !class.Same(got, c) || class.Check(got) != api.OK {
			t.Errorf("Parse(%.200x): %s, %d; want %s", b, show(got), e, show(c))
		}
		again, e := class.Bytes(got)
		if e != api.OK || !bytes.Equal(again, b) {
			t.Errorf("what was read of %.200x is written %.200x, %d", b, again, e)
		}
	}
	if fits < 500 {
		t.Errorf("just %d classes are not too long", fits)
	}
}

func TestP84ReadIsWritten(t *testing.T) {
	d := &dice{state: 2}
	rows := [][]byte{firstBytes(), secondBytes(), richBytes(), spelt(pieces(ofMethod(plain, func(*api.Method) {})))}
	good := 0
	for range 40000 {
		b := slices.Clone(pick(d, rows...))
		for range 1 + d.roll(3) {
			at := d.roll(len(b))
			switch d.roll(5) {
			case 0:
				b = slices.Delete(b, at, at+1)
			case 1:
				b = slices.Insert(b, at, byte(d.roll(256)))
			case 2:
				b[at]++
			case 3:
				b[at]--
			case 4:
				b[at] = pick[byte](d, 0, 1, 2, 3, 'a', 'I', 0x7F, 0x80, 0xFF, byte(d.roll(256)))
			}
		}
		if !wantParsed(t, b) {
			continue
		}
		good++
		c, _ := class.Parse(b)
		if again, e := class.Bytes(c); e != api.OK || !bytes.Equal(again, b) || class.Check(c) != api.OK {
			t.Errorf("%x is written %x, %d", b, again, e)
		}
	}
	if good < 2000 {
		t.Errorf("just %d rows of bytes were a class's", good)
	}
}

func TestP85CutOrMore(t *testing.T) {
	d := &dice{state: 3}
	_, rows := examples()
	for len(rows) < 30 {
		if b, e := class.Bytes(some(d)); e == api.OK && len(b) < 3000 {
			rows = append(rows, b)
		}
	}
	for _, b := range rows {
		for size := range b {
			if c, e := class.Parse(b[:size:size]); !same(c, api.Class{}) || e != api.ErrClass {
				t.Fatalf("Parse of %d of %d bytes: %s, %d", size, len(b), show(c), e)
			}
			// What stands behind in memory is no part of it.
			if _, e := class.Parse(b[:size]); e != api.ErrClass {
				t.Fatalf("Parse of %d of %d bytes: %d", size, len(b), e)
			}
		}
		for n := range 256 {
			wantNone(t, append(slices.Clone(b), byte(n)))
		}
		for _, tail := range [][]byte{{0, 0}, b, {0x80, 0}, make([]byte, 100)} {
			wantNone(t, slices.Concat(b, tail))
			wantNone(t, slices.Concat(tail, b))
		}
	}
}

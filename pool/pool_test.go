package pool_test

import (
	"bytes"
	"fmt"
	"math"
	"slices"
	"strings"
	"testing"
	"unicode/utf8"
	"unsafe"

	"warpbeam/api"
	"warpbeam/leb"
	"warpbeam/pool"
	"warpbeam/text"
)

// allKinds are the numbers that are kinds, and all around them: such as are one only if cut to a byte, too.
func allKinds() []int {
	return []int{-1, 0, 1, 2, 3, 4, 5, 6, 7, 8, 127, 128, 255, 256, 257, 260, 262, -255, -250, 1<<32 + 1, math.MinInt64, math.MaxInt64}
}

func txt(s string) api.Const       { return api.Const{Kind: api.ConstText, Text: s} }
func num(n int) api.Const          { return api.Const{Kind: api.ConstInt, N: n} }
func long(n int) api.Const         { return api.Const{Kind: api.ConstLong, N: n} }
func class(a int) api.Const        { return api.Const{Kind: api.ConstClass, A: a} }
func field(a, b, c int) api.Const  { return api.Const{Kind: api.ConstField, A: a, B: b, C: c} }
func method(a, b, c int) api.Const { return api.Const{Kind: api.ConstMethod, A: a, B: b, C: c} }

// list is constants, with none ahead of them.
func list(l ...api.Const) []api.Const {
	return append([]api.Const{{}}, l...)
}

// sample has some of each kind, named from ahead and from behind.
func sample() []api.Const {
	return list(
		field(4, 3, 6), num(-1), txt("x"), class(5), txt("pa\x00rt\u20AC"), txt("I"), long(64), txt(""),
		method(10, 5, 11), class(3), txt("()V"), num(1<<31-1), class(3), field(13, 3, 3), long(-1<<63), method(4, 3, 6),
	)
}

// sampleBytes are the bytes of sample, written out by the document's words.
func sampleBytes() []byte {
	return slices.Concat(
		[]byte{17},
		[]byte{5, 4, 3, 6}, []byte{2, 0x7F}, []byte{1, 1, 'x'}, []byte{4, 5}, []byte{1, 9, 'p', 'a', 0xC0, 0x80, 'r', 't', 0xE2, 0x82, 0xAC}, []byte{1, 1, 'I'}, []byte{3, 0xC0, 0}, []byte{1, 0},
		[]byte{6, 10, 5, 11}, []byte{4, 3}, []byte{1, 3, '(', ')', 'V'}, []byte{2, 0xFF, 0xFF, 0xFF, 0xFF, 7}, []byte{4, 3}, []byte{5, 13, 3, 3}, []byte{3, 0x80, 0x80, 0x80, 0x80, 0x80, 0x80, 0x80, 0x80, 0x80, 0x7F}, []byte{6, 4, 3, 6},
	)
}

// good are lists that may be.
func good() [][]api.Const {
	return [][]api.Const{
		list(), list(txt("")), list(txt("a")), list(num(0)), list(long(0)), list(txt("a"), class(1)), list(class(2), txt("a")), list(num(-1), long(64)),
		list(txt("a"), class(1), field(2, 1, 1)), list(method(2, 3, 3), class(3), txt("m")), list(field(4, 2, 3), txt("f"), txt("[J"), class(5), txt("A")),
		list(txt("a"), txt("a"), class(1), class(1), class(2), num(7), num(7)), list(txt("a"), class(1), field(2, 1, 1), method(2, 1, 1), field(2, 1, 1)), sample(),
	}
}

// spoilt are lists that may not be, of 4096 constants at most: each one differs from one that may be in one thing.
func spoilt() [][]api.Const {
	l := [][]api.Const{nil, {}}
	for i := range sample() {
		for _, c := range otherFields(sample()[i]) {
			l = append(l, put(sample(), i, c))
		}
	}
	for _, first := range []api.Const{txt(""), txt("x"), num(0), num(5), long(0), long(5), class(3), field(4, 3, 6), method(4, 3, 6), {Kind: 7}, {Kind: -1}} {
		l = append(l, []api.Const{first}, put(sample(), 0, first))
	}
	for _, c := range []api.Const{{}, {Kind: 7}, {Kind: -1}, {Kind: 256}, {Kind: 257, Text: "x"}, {Kind: 258}, {Kind: 1<<32 + 3}, {Kind: 7, Text: "x", N: 1, A: 3, B: 3, C: 3}, num(1 << 31), num(-1<<31 - 1), num(math.MaxInt64), num(math.MinInt64), txt("\x80"), txt("x\xC0\x80"), txt("\xED\xA0\x80"), txt("x\xFF")} {
		l = append(l, list(c), put(sample(), 2, c), append(sample(), c))
	}
	return append(l, misnamed()...)
}

// otherFields are a constant, each time with one of the fields that its kind does not name, or more of them, not zero.
func otherFields(c api.Const) []api.Const {
	var l []api.Const
	for bits := 1; bits < 32; bits++ {
		for _, n := range []int{1, 3, -1} {
			other := api.Const{N: bits & 1 * n, A: bits >> 1 & 1 * n, B: bits >> 2 & 1 * n, C: bits >> 3 & 1 * n, Text: strings.Repeat("x", bits>>4)}
			if d, ok := added(c, other); ok {
				l = append(l, d)
			}
		}
	}
	return l
}

// added is a constant with the fields of another one beside its own: false, if they would be in each other's way.
func added(c, other api.Const) (api.Const, bool) {
	isText, isNum, isClass, isMember := c.Kind == 1, c.Kind == 2 || c.Kind == 3, c.Kind == 4, c.Kind == 5 || c.Kind == 6
	clash := isText && other.Text != "" || isNum && other.N != 0 || (isClass || isMember) && other.A != 0 || isMember && (other.B != 0 || other.C != 0)
	return api.Const{Kind: c.Kind, Text: c.Text + other.Text, N: c.N + other.N, A: c.A + other.A, B: c.B + other.B, C: c.C + other.C}, !clash
}

// numbers are such as may be the number of a constant of a list, and such as may not.
func numbers(l []api.Const) []int {
	n := []int{-1, -2, -3, -len(l), len(l) + 1, len(l) + 256, 256, 257, 4095, 4096, 1 << 32, 1<<32 + 3, 1<<32 + 4, math.MinInt64, math.MinInt64 + 3, math.MaxInt64}
	for i := range len(l) + 1 {
		n = append(n, i)
	}
	return n
}

// kindAt is the kind of the constant at a place: -5, if there is no such place.
func kindAt(l []api.Const, i int) int {
	for at, c := range l {
		if at == i {
			return c.Kind
		}
	}
	return -5
}

// misnamed are lists that may not be as one number of a constant names a constant of another kind, or none.
func misnamed() [][]api.Const {
	var bad [][]api.Const
	for i, c := range sample() {
		for _, n := range numbers(sample()) {
			kind := kindAt(sample(), n)
			inA, inB, inC := c, c, c
			inA.A, inB.B, inC.C = n, n, n
			isMember := c.Kind == 5 || c.Kind == 6
			if c.Kind == 4 && kind != 1 || isMember && kind != 4 {
				bad = append(bad, put(sample(), i, inA))
			}
			if isMember && kind != 1 {
				bad = append(bad, put(sample(), i, inB), put(sample(), i, inC))
			}
		}
	}
	return bad
}

// put is a list with another constant at a place.
func put(l []api.Const, i int, c api.Const) []api.Const {
	l = slices.Clone(l)
	l[i] = c
	return l
}

// many are constants, so many in all, of all kinds; each names such as stand ahead of it.
func many(count int) []api.Const {
	l := list(txt("a"), class(1))
	for len(l) < count {
		n := len(l)
		l = append(l, txt(strings.Repeat("a", n%5)), num(n), class(n), field(n+2, n, 1), long(-n), method(2, 1, n))
	}
	return l[:count]
}

func wantCheck(t *testing.T, l []api.Const, want api.Errno) {
	t.Helper()
	if e := pool.Check(l); e != want {
		t.Errorf("Check(%v): %d; want %d", show(l), e, want)
	}
	if b, e := pool.Bytes(l); e != want || e != api.OK && len(b) != 0 {
		t.Errorf("Bytes(%v): %x, %d; want %d", show(l), b, e, want)
	}
}

// show is as much of a list as can be looked at.
func show(l []api.Const) string {
	var b strings.Builder
	for i, c := range l[:min(len(l), 20)] {
		fmt.Fprintf(&b, "%d: %d %.20q %d %d %d %d; ", i, c.Kind, c.Text, c.N, c.A, c.B, c.C)
	}
	return b.String()
}

// wantBytes holds Check, Bytes and Parse against a list and its bytes.
func wantBytes(t *testing.T, l []api.Const, want []byte) {
	t.Helper()
	wantCheck(t, l, api.OK)
	if b, e := pool.Bytes(l); e != api.OK || !bytes.Equal(b, want) {
		t.Errorf("Bytes(%v): %x, %d; want %x", show(l), b, e, want)
	}
	wantParsed(t, want, l, nil)
}

// wantParsed holds Parse against what it is to tell.
func wantParsed(t *testing.T, b []byte, want []api.Const, rest []byte) {
	t.Helper()
	l, r, e := pool.Parse(b)
	if e != api.OK || !slices.Equal(l, want) || !bytes.Equal(r, rest) {
		t.Errorf("Parse(%.60x): %v, %.60x, %d; want %v, %.60x", b, show(l), r, e, show(want), rest)
	}
}

func wantFault(t *testing.T, b []byte, want api.Errno) {
	t.Helper()
	if l, rest, e := pool.Parse(b); e != want || len(l) != 0 || len(rest) != 0 {
		t.Errorf("Parse(%.60x): %v, %.60x, %d; want error %d and nothing beside it", b, show(l), rest, e, want)
	}
}

func TestP41Examples(t *testing.T) {
	wantBytes(t, list(txt("a"), class(1)), []byte{3, 1, 1, 0x61, 4, 1})
	wantBytes(t, list(num(-1), long(64)), []byte{3, 2, 0x7F, 3, 0xC0, 0})
	wantBytes(t, sample(), sampleBytes())
}

func TestP41EachKind(t *testing.T) {
	wantBytes(t, list(), []byte{1})
	wantBytes(t, list(txt("I")), []byte{2, 1, 1, 'I'})
	wantBytes(t, list(num(-64)), []byte{2, 2, 0x40})
	wantBytes(t, list(num(-65)), []byte{2, 2, 0xBF, 0x7F})
	wantBytes(t, list(long(63)), []byte{2, 3, 0x3F})
	wantBytes(t, list(class(2), txt("b")), []byte{3, 4, 2, 1, 1, 'b'})
	wantBytes(t, list(txt("a"), class(1), field(2, 1, 4), txt("J")), []byte{5, 1, 1, 'a', 4, 1, 5, 2, 1, 4, 1, 1, 'J'})
	wantBytes(t, list(txt("a"), class(1), method(2, 4, 1), txt("J")), []byte{5, 1, 1, 'a', 4, 1, 6, 2, 4, 1, 1, 1, 'J'})
	for _, l := range good() {
		wantCheck(t, l, api.OK)
	}
}

func TestP41HowMany(t *testing.T) {
	wantCheck(t, nil, api.ErrPool)
	wantCheck(t, []api.Const{}, api.ErrPool)
	for _, count := range []int{1, 2, 127, 128, 129, 4095, 4096} {
		ints := make([]api.Const, count)
		count7, _ := leb.U(count)
		for i := 1; i < count; i++ {
			ints[i] = num(9)
		}
		wantBytes(t, ints, append(count7, bytes.Repeat([]byte{2, 9}, count-1)...))
	}
	wantCheck(t, many(4090), api.OK)
	for _, count := range []int{4097, 4098, 8192, 65537} {
		ints := append(slices.Repeat([]api.Const{num(9)}, count-1), api.Const{Kind: 7})
		wantCheck(t, put(ints, 0, api.Const{}), api.ErrLimit)
		wantCheck(t, ints, api.ErrLimit)
		wantCheck(t, make([]api.Const, count), api.ErrLimit)
		wantCheck(t, put(slices.Repeat([]api.Const{num(9)}, count), 0, api.Const{}), api.ErrLimit)
	}
	for _, i := range []int{0, 1, 2048, 4095} {
		l := put(slices.Repeat([]api.Const{num(9)}, 4096), 0, api.Const{})
		wantCheck(t, put(l, i, api.Const{Kind: 2, N: 9, B: 1}), api.ErrPool)
	}
}

func TestP41FarNumbers(t *testing.T) {
	l := put(slices.Repeat([]api.Const{num(0)}, 4096), 0, api.Const{})
	l[4093], l[4094], l[4095], l[1], l[2] = class(4094), txt("far"), method(1, 4094, 4094), class(4094), field(4093, 4094, 4094)
	want := slices.Concat([]byte{0x80, 0x20, 4, 0xFE, 0x1F, 5, 0xFD, 0x1F, 0xFE, 0x1F, 0xFE, 0x1F}, bytes.Repeat([]byte{2, 0}, 4090), []byte{4, 0xFE, 0x1F, 1, 3, 'f', 'a', 'r', 6, 1, 0xFE, 0x1F, 0xFE, 0x1F})
	wantBytes(t, l, want)
	wantCheck(t, put(l, 1, class(4096)), api.ErrPool)
	wantCheck(t, put(l, 1, class(4095)), api.ErrPool)
}

func TestP41Ints(t *testing.T) {
	wantBytes(t, list(num(-1<<31)), []byte{2, 2, 0x80, 0x80, 0x80, 0x80, 0x78})
	wantBytes(t, list(num(1<<31-1)), []byte{2, 2, 0xFF, 0xFF, 0xFF, 0xFF, 7})
	wantBytes(t, list(long(-1<<31-1)), []byte{2, 3, 0xFF, 0xFF, 0xFF, 0xFF, 0x77})
	wantBytes(t, list(long(1<<31)), []byte{2, 3, 0x80, 0x80, 0x80, 0x80, 8})
	for _, n := range []int{1 << 31, -1<<31 - 1, 1<<32 - 1, 1 << 32, 1<<32 + 5, -1 << 32, math.MaxInt64, math.MinInt64} {
		wantCheck(t, list(num(n)), api.ErrPool)
		wantCheck(t, list(long(n)), api.OK)
	}
	for _, n := range []int{0, 1, -1, 1 << 30, -1 << 30, 1<<31 - 2, -1<<31 + 1} {
		wantCheck(t, list(num(n)), api.OK)
		wantCheck(t, list(long(n)), api.OK)
	}
}

func TestP41Longs(t *testing.T) {
	wantBytes(t, list(long(math.MinInt64)), []byte{2, 3, 0x80, 0x80, 0x80, 0x80, 0x80, 0x80, 0x80, 0x80, 0x80, 0x7F})
	wantBytes(t, list(long(math.MaxInt64)), []byte{2, 3, 0xFF, 0xFF, 0xFF, 0xFF, 0xFF, 0xFF, 0xFF, 0xFF, 0xFF, 0})
	wantBytes(t, list(long(0)), []byte{2, 3, 0})
}

func TestP41Texts(t *testing.T) {
	for _, c := range []struct {
		s   string
		row []byte
	}{
		{"", nil}, {"\x00", []byte{0xC0, 0x80}}, {"\x7F", []byte{0x7F}}, {"\u0080", []byte{0xC2, 0x80}}, {"\uFFFF", []byte{0xEF, 0xBF, 0xBF}}, {"\uFFFD", []byte{0xEF, 0xBF, 0xBD}},
		{"\U00010000", []byte{0xED, 0xA0, 0x80, 0xED, 0xB0, 0x80}}, {"a\x00b", []byte{'a', 0xC0, 0x80, 'b'}}, {"not a name!", []byte("not a name!")},
	} {
		wantBytes(t, list(txt(c.s)), slices.Concat([]byte{2, 1, byte(len(c.row))}, c.row))
		wantBytes(t, list(txt(c.s), class(1), method(2, 1, 1)), slices.Concat([]byte{4, 1, byte(len(c.row))}, c.row, []byte{4, 1, 6, 2, 1, 1}))
	}
	for _, size := range []int{127, 128, 16383, 16384, 100000} {
		count, _ := leb.U(size)
		wantBytes(t, list(txt(strings.Repeat("z", size))), slices.Concat([]byte{2, 1}, count, bytes.Repeat([]byte{'z'}, size)))
	}
	// Counted are the bytes of the class's way, not those that Go has.
	wantBytes(t, list(txt(strings.Repeat("\x00", 64))), slices.Concat([]byte{2, 1, 0x80, 1}, bytes.Repeat([]byte{0xC0, 0x80}, 64)))
	for _, s := range []string{"\x80", "\xFF", "\xC0\x80", "\xED\xA0\x80", "\xED\xA0\x80\xED\xB0\x80", "a\xC3", "\xF4\x90\x80\x80", "\xE2\x82", "ok\xBF"} {
		wantCheck(t, list(txt(s)), api.ErrPool)
		wantCheck(t, list(txt("ok"), txt(s)), api.ErrPool)
	}
}

func TestP41Spoilt(t *testing.T) {
	for _, l := range spoilt() {
		wantCheck(t, l, api.ErrPool)
	}
}

func TestP41Numbers(t *testing.T) {
	for i, c := range sample() {
		for _, n := range numbers(sample()) {
			for _, c := range []api.Const{{Kind: c.Kind, Text: c.Text, N: c.N, A: n, B: c.B, C: c.C}, {Kind: c.Kind, Text: c.Text, N: c.N, A: c.A, B: n, C: c.C}, {Kind: c.Kind, Text: c.Text, N: c.N, A: c.A, B: c.B, C: n}} {
				l := put(sample(), i, c)
				want := api.ErrPool
				if mayBe(l) {
					want = api.OK
				}
				wantCheck(t, l, want)
			}
		}
	}
	// One that names itself, and two that name one another.
	for _, l := range [][]api.Const{list(class(1)), list(class(2), class(1)), list(txt("a"), field(2, 1, 1)), list(txt("a"), method(3, 1, 1), class(2)), list(txt("a"), class(1), field(2, 3, 1)), list(txt("a"), class(1), field(2, 1, 3))} {
		wantCheck(t, l, api.ErrPool)
	}
}

func TestP41Kinds(t *testing.T) {
	for i, c := range sample() {
		for _, kind := range allKinds() {
			c.Kind = kind
			l := put(sample(), i, c)
			want := api.ErrPool
			if mayBe(l) {
				want = api.OK
			}
			wantCheck(t, l, want)
		}
	}
}

// mayBe tells whether constants may be, by the document's words.
func mayBe(l []api.Const) bool {
	for i, c := range l {
		if (i == 0) != (c.Kind == 0) {
			return false
		}
		isText, isNum, isMember := c.Kind == 1, c.Kind == 2 || c.Kind == 3, c.Kind == 5 || c.Kind == 6
		switch {
		case c.Kind < 0 || c.Kind > 6,
			!isText && c.Text != "", !utf8.ValidString(c.Text),
			!isNum && c.N != 0, c.Kind == 2 && int(int32(c.N)) != c.N,
			c.Kind < 4 && c.A != 0, !isMember && (c.B != 0 || c.C != 0),
			c.Kind == 4 && kindAt(l, c.A) != 1, isMember && kindAt(l, c.A) != 4, isMember && kindAt(l, c.B) != 1, isMember && kindAt(l, c.C) != 1:
			return false
		}
	}
	return len(l) > 0
}

func TestP42Examples(t *testing.T) {
	wantParsed(t, []byte{1, 9}, list(), []byte{9})
	wantFault(t, []byte{2, 7, 0}, api.ErrSyntax)
	wantFault(t, []byte{2, 4, 1}, api.ErrPool)
	wantFault(t, []byte{0}, api.ErrPool)
	wantFault(t, []byte{2, 1, 1, 0x80}, api.ErrText)
}

func TestP42Cut(t *testing.T) {
	wantFault(t, nil, api.ErrTrunc)
	wantFault(t, []byte{}, api.ErrTrunc)
	for _, l := range append(good(), many(200), list(txt("\U00010000"), num(-1<<31), long(-1<<63)), list(txt(strings.Repeat("z", 300)))) {
		b, e := pool.Bytes(l)
		if e != api.OK {
			t.Fatalf("%v: %d", show(l), e)
		}
		for count := range b {
			wantFault(t, b[:count], api.ErrTrunc)
			wantFault(t, b[:count:count], api.ErrTrunc)
		}
	}
}

func TestP42HowMany(t *testing.T) {
	for _, b := range [][]byte{{0x81, 0x20}, {0x82, 0x20}, {0x80, 0x40}, {0x80, 0x80, 4}, {0x81, 0x80, 0x80, 0x80, 0x10}, {0xFF, 0xFF, 0xFF, 0xFF, 0xFF, 0xFF, 0xFF, 0xF}} {
		wantFault(t, b, api.ErrLimit)
		wantFault(t, append(b, 7), api.ErrLimit)
		wantFault(t, append(b, bytes.Repeat([]byte{2, 9}, 5000)...), api.ErrLimit)
	}
	wantFault(t, []byte{0x80, 0x20}, api.ErrTrunc)
	wantFault(t, append([]byte{0x80, 0x20}, bytes.Repeat([]byte{2, 9}, 4094)...), api.ErrTrunc)
	wantParsed(t, append([]byte{0x80, 0x20}, bytes.Repeat([]byte{2, 9}, 4096)...), append(list(), slices.Repeat([]api.Const{num(9)}, 4095)...), []byte{2, 9})
	wantFault(t, []byte{0, 1, 2}, api.ErrPool)
	for _, b := range [][]byte{{0x80, 0}, {0x81, 0}, {0x83, 0x80, 0}, {0x81, 0xA0, 0}, bytes.Repeat([]byte{0x80}, 8), bytes.Repeat([]byte{0xFF}, 20), {0x80, 0x80, 0x80, 0x80, 0x80, 0x80, 0x80, 0x10}} {
		wantFault(t, b, api.ErrSyntax)
	}
	wantFault(t, []byte{0x81}, api.ErrTrunc)
	wantFault(t, bytes.Repeat([]byte{0x80}, 7), api.ErrTrunc)
}

func TestP42Kinds(t *testing.T) {
	for kind := range 256 {
		if kind >= 1 && kind <= 6 {
			wantFault(t, []byte{2, byte(kind)}, api.ErrTrunc)
			continue
		}
		wantFault(t, []byte{2, byte(kind)}, api.ErrSyntax)
		wantFault(t, []byte{2, byte(kind), 1, 1, 1, 1}, api.ErrSyntax)
		wantFault(t, []byte{5, 1, 1, 'a', byte(kind), 0x80, 0}, api.ErrSyntax)
	}
}

func TestP42Texts(t *testing.T) {
	for _, b := range [][]byte{{1}, {2, 'a'}, {0x7F, 'a', 'b'}, {5, 0xC3}, {1, 0xC3}, {2, 0, 0}, {3, 'a', 'b', 0}, {6, 0xED, 0xA0, 0x80, 0xED, 0xB0}, {4, 0xF0, 0x90, 0x80, 0x80}} {
		row := append([]byte{2, 1}, b...)
		want := api.ErrText
		if len(b)-1 < int(b[0]) {
			want = api.ErrTrunc
		}
		wantFault(t, row, want)
	}
	// More bytes are told of a text than there are, up to the most that a number tells.
	for _, n := range []int{3, 127, 128, 65535, 1<<31 - 1, 1 << 31, 1 << 32, 1<<32 + 1, 1<<53 - 1} {
		count, _ := leb.U(n)
		wantFault(t, slices.Concat([]byte{2, 1}, count, []byte{'a', 'b'}), api.ErrTrunc)
	}
	wantFault(t, []byte{2, 1, 0x80, 0x80, 0x80, 0x80, 0x80, 0x80, 0x80, 0x10, 'a'}, api.ErrSyntax)
	// A character that is cut by the text's end is not made whole by what stands behind.
	wantFault(t, []byte{3, 1, 1, 0xC3, 0x80}, api.ErrText)
	wantFault(t, []byte{2, 1, 3, 0xED, 0xA0, 0x80, 0xED, 0xB0, 0x80}, api.ErrText)
	wantFault(t, []byte{3, 1, 3, 0xED, 0xA0, 0x80, 1, 3, 0xED, 0xB0, 0x80}, api.ErrText)
	wantParsed(t, []byte{2, 1, 1, 'a', 0x80}, list(txt("a")), []byte{0x80})
}

func TestP42Numbers(t *testing.T) {
	for _, c := range []struct {
		b []byte
		e api.Errno
	}{
		{[]byte{2, 2, 0x80, 0}, api.ErrSyntax}, {[]byte{2, 2, 0xFF, 0x7F}, api.ErrSyntax}, {[]byte{2, 3, 0x81, 0}, api.ErrSyntax}, {[]byte{2, 3, 0xC0, 0x7F}, api.ErrSyntax},
		{[]byte{2, 3, 0x80, 0x80, 0x80, 0x80, 0x80, 0x80, 0x80, 0x80, 0x80, 1}, api.ErrSyntax}, {append([]byte{2, 3}, bytes.Repeat([]byte{0x80}, 10)...), api.ErrSyntax}, {append([]byte{2, 2}, bytes.Repeat([]byte{0xFF}, 30)...), api.ErrSyntax},
		{append([]byte{2, 3}, bytes.Repeat([]byte{0x80}, 9)...), api.ErrTrunc},
		{[]byte{3, 1, 1, 'a', 4, 0x81, 0}, api.ErrSyntax}, {[]byte{3, 1, 0x81, 0, 'a', 4, 1}, api.ErrSyntax}, {[]byte{4, 1, 1, 'a', 4, 1, 5, 0x82, 0, 1, 1}, api.ErrSyntax}, {[]byte{4, 1, 1, 'a', 4, 1, 5, 2, 0x81, 0, 1}, api.ErrSyntax}, {[]byte{4, 1, 1, 'a', 4, 1, 6, 2, 1, 0x81, 0}, api.ErrSyntax},
		{append([]byte{3, 1, 1, 'a', 4}, bytes.Repeat([]byte{0x81}, 9)...), api.ErrSyntax}, {append([]byte{3, 1, 1, 'a', 4}, bytes.Repeat([]byte{0x81}, 7)...), api.ErrTrunc},
		{[]byte{2, 2, 0x80, 0x80, 0x80, 0x80, 8}, api.ErrPool}, {[]byte{2, 2, 0xFF, 0xFF, 0xFF, 0xFF, 0x77}, api.ErrPool},
		{[]byte{2, 4, 0}, api.ErrPool}, {[]byte{2, 4, 1}, api.ErrPool}, {[]byte{2, 4, 2}, api.ErrPool}, {[]byte{3, 2, 1, 4, 1}, api.ErrPool}, {[]byte{3, 1, 1, 'a', 4, 0x81, 2}, api.ErrPool}, {[]byte{3, 1, 1, 'a', 5, 1, 1, 1}, api.ErrPool},
	} {
		wantFault(t, c.b, c.e)
	}
}

func TestP42WhichFirst(t *testing.T) {
	wrong := []byte{4, 9}                            // a number of no constant: told behind all
	tooFar := []byte{2, 0xFF, 0xFF, 0xFF, 0xFF, 0xF} // an int that is beyond: likewise
	for _, c := range []struct {
		parts [][]byte
		e     api.Errno
	}{
		{[][]byte{{4}, wrong, tooFar, {7}}, api.ErrSyntax}, {[][]byte{{4}, wrong, tooFar, {0}}, api.ErrSyntax}, {[][]byte{{4}, wrong, tooFar}, api.ErrTrunc}, {[][]byte{{4}, wrong, tooFar, {1, 1, 0x80}}, api.ErrText}, {[][]byte{{4}, wrong, tooFar, {2, 0x80, 0}}, api.ErrSyntax}, {[][]byte{{4}, wrong, tooFar, {2, 0}}, api.ErrPool},
		{[][]byte{{4}, {1, 1, 0x80}, {7}}, api.ErrText}, {[][]byte{{4}, {7}, {1, 1, 0x80}}, api.ErrSyntax}, {[][]byte{{4}, {1, 1, 0x80}}, api.ErrText}, {[][]byte{{4}, {1, 1, 0x80}, {2, 0x80, 0}}, api.ErrText}, {[][]byte{{4}, {2, 0x80, 0}, {1, 1, 0x80}}, api.ErrSyntax},
		{[][]byte{{4}, {1, 0x81, 0, 0x80}}, api.ErrSyntax}, {[][]byte{{4}, {1, 5, 0x80}}, api.ErrTrunc}, {[][]byte{{4}, {5, 0x80, 0, 0x80}}, api.ErrSyntax}, {[][]byte{{4}, {5, 9, 9, 0x80}}, api.ErrTrunc},
		{[][]byte{{0x81, 0}, {7}}, api.ErrSyntax}, {[][]byte{{0x81, 0x20}, {1, 1, 0x80}}, api.ErrLimit}, {[][]byte{{0}, {1, 1, 0x80}}, api.ErrPool}, {[][]byte{{0}, {0x80}}, api.ErrPool},
	} {
		wantFault(t, slices.Concat(c.parts...), c.e)
	}
}

// model is what Parse is to answer, by the document's words.
func model(b []byte) (l []api.Const, rest []byte, e api.Errno) {
	count, b, e := leb.TakeU(b)
	if e == api.OK && count > 4096 {
		e = api.ErrLimit
	}
	for i := 0; i < count && e == api.OK; i++ {
		var c api.Const
		if i > 0 {
			c, b, e = modelOne(b)
		}
		l = append(l, c)
	}
	if e == api.OK && !mayBe(l) {
		e = api.ErrPool
	}
	if e != api.OK {
		return nil, nil, e
	}
	return l, b, api.OK
}

func modelOne(b []byte) (c api.Const, rest []byte, e api.Errno) {
	if len(b) == 0 {
		return c, nil, api.ErrTrunc
	}
	c.Kind, b = int(b[0]), b[1:]
	var parts []*int
	switch c.Kind {
	case 1:
		n, b, e := leb.TakeU(b)
		if e == api.OK && n > len(b) {
			e = api.ErrTrunc
		}
		if e == api.OK {
			c.Text, _, e = text.Decode(b[:n])
			b = b[n:]
		}
		return c, b, e
	case 2, 3:
		c.N, b, e = leb.TakeS(b)
		return c, b, e
	case 4:
		parts = []*int{&c.A}
	case 5, 6:
		parts = []*int{&c.A, &c.B, &c.C}
	default:
		return c, nil, api.ErrSyntax
	}
	for _, p := range parts {
		if e == api.OK {
			*p, b, e = leb.TakeU(b)
		}
	}
	return c, b, e
}

// wantRead holds Parse against the model, and what it reads against Bytes.
func wantRead(t *testing.T, b []byte) {
	t.Helper()
	l, rest, e := model(b)
	if e != api.OK {
		wantFault(t, b, e)
		return
	}
	wantParsed(t, b, l, rest)
	if row, e := pool.Bytes(l); e != api.OK || !bytes.Equal(row, b[:len(b)-len(rest)]) {
		t.Errorf("%x is written %x, %d", b[:len(b)-len(rest)], row, e)
	}
}

func TestP42EachByte(t *testing.T) {
	b := sampleBytes()
	for i := range b {
		for c := range 256 {
			other := bytes.Clone(b)
			other[i] = byte(c)
			wantRead(t, other)
		}
		wantRead(t, slices.Delete(bytes.Clone(b), i, i+1))
		for _, c := range []byte{0, 1, 2, 3, 4, 5, 6, 7, 0x7F, 0x80, 0xFF} {
			wantRead(t, slices.Insert(bytes.Clone(b), i, c))
		}
	}
}

// rows calls f with each row of so many of these bytes.
func rows(telling []byte, count int, f func([]byte)) {
	b := make([]byte, count)
	var fill func(at int)
	fill = func(at int) {
		if at == count {
			f(b)
			return
		}
		for _, c := range telling {
			b[at] = c
			fill(at + 1)
		}
	}
	fill(0)
}

func TestP42Rows(t *testing.T) {
	for count := range 3 {
		rows([]byte{0, 1, 2, 3, 4, 5, 6, 7, 0x20, 0x40, 0x7F, 0x80, 0x81, 0xC0, 0xC3, 0xED, 0xFF}, count, func(b []byte) {
			wantRead(t, b)
			wantRead(t, append([]byte{2}, b...))
			wantRead(t, append([]byte{3, 1, 1, 'a'}, b...))
			wantRead(t, append([]byte{4, 1, 1, 'a', 4, 1}, b...))
		})
	}
	for count := range 5 {
		rows([]byte{0, 1, 2, 3, 4, 5, 6, 7, 0x80, 0xC3}, count, func(b []byte) {
			wantRead(t, append([]byte{2}, b...))
			wantRead(t, append([]byte{4, 1, 1, 'a', 4, 1}, b...))
		})
	}
}

func TestP42WhatStandsBehind(t *testing.T) {
	tails := [][]byte{nil, {0}, {9}, {0x80}, {0xFF, 0xFF}, {1, 1, 0x61}, {3, 1, 1, 0x61, 4, 1}, bytes.Repeat([]byte{0x80}, 20)}
	for _, l := range append(good(), many(300)) {
		b, _ := pool.Bytes(l)
		for _, tail := range tails {
			wantParsed(t, slices.Concat(b, tail), l, tail)
		}
		m, rest, _ := pool.Parse(slices.Concat(b, sampleBytes(), []byte{5}))
		n, rest, e := pool.Parse(rest)
		if !slices.Equal(m, l) || !slices.Equal(n, sample()) || !bytes.Equal(rest, []byte{5}) || e != api.OK {
			t.Errorf("two lists one behind the other: %v, %v, %x, %d", show(m), show(n), rest, e)
		}
	}
}

// However much stands behind, it costs no more than being answered once.
func TestP42MuchBehind(t *testing.T) {
	l := many(4094)
	b, _ := pool.Bytes(l)
	tail := bytes.Repeat([]byte{0x85, 1, 2}, 1<<22)
	wantParsed(t, slices.Concat(b, tail), l, tail)
	b[0]++ // one more is told than there are: its kind is none
	wantFault(t, slices.Concat(b, tail), api.ErrSyntax)
}

// told is what one of the calls of P4.3 answers: texts, a number, an error.
type told struct {
	a, b, c string
	n       int
	e       api.Errno
}

func wantTold(t *testing.T, what string, l []api.Const, i, kind int, got, want told) {
	t.Helper()
	if got != want {
		t.Errorf("%s of %d, of kind %d, of %v: %#v; want %#v", what, i, kind, show(l), got, want)
	}
}

func askText(l []api.Const, i int) told {
	s, e := pool.Text(l, i)
	return told{a: s, e: e}
}

func askNum(l []api.Const, i, kind int) told {
	n, e := pool.Num(l, i, kind)
	return told{n: n, e: e}
}

func askClass(l []api.Const, i int) told {
	s, e := pool.ClassName(l, i)
	return told{a: s, e: e}
}

func askRef(l []api.Const, i, kind int) told {
	a, b, c, e := pool.Ref(l, i, kind)
	return told{a, b, c, 0, e}
}

// wantAll holds the four calls against the document's words, at a place, with all kinds.
func wantAll(t *testing.T, l []api.Const, i int) {
	t.Helper()
	none := told{e: api.ErrPool}
	text, class := none, none
	if kindAt(l, i) == 1 {
		text = told{a: l[i].Text}
	}
	if kindAt(l, i) == 4 && kindAt(l, l[i].A) == 1 {
		class = told{a: l[l[i].A].Text}
	}
	wantTold(t, "Text", l, i, 0, askText(l, i), text)
	wantTold(t, "ClassName", l, i, 0, askClass(l, i), class)
	for _, kind := range allKinds() {
		num, ref := none, none
		same := kindAt(l, i) == kind
		if same && (kind == 2 || kind == 3) {
			num = told{n: l[i].N}
		}
		if same && (kind == 5 || kind == 6) {
			a, b, c := l[i].A, l[i].B, l[i].C
			if kindAt(l, a) == 4 && kindAt(l, l[a].A) == 1 && kindAt(l, b) == 1 && kindAt(l, c) == 1 {
				ref = told{l[l[a].A].Text, l[b].Text, l[c].Text, 0, api.OK}
			}
		}
		wantTold(t, "Num", l, i, kind, askNum(l, i, kind), num)
		wantTold(t, "Ref", l, i, kind, askRef(l, i, kind), ref)
	}
}

func TestP43Examples(t *testing.T) {
	l := list(txt("a"), class(1))
	none := told{e: api.ErrPool}
	wantTold(t, "ClassName", l, 2, 0, askClass(l, 2), told{a: "a"})
	wantTold(t, "ClassName", l, 1, 0, askClass(l, 1), none)
	wantTold(t, "Text", l, 1, 0, askText(l, 1), told{a: "a"})
	wantTold(t, "Text", l, 0, 0, askText(l, 0), none)
	wantTold(t, "Text", l, 3, 0, askText(l, 3), none)
}

func TestP43Plain(t *testing.T) {
	l := sample()
	for i, want := range map[int]string{3: "x", 5: "pa\x00rt\u20AC", 6: "I", 8: "", 11: "()V"} {
		wantTold(t, "Text", l, i, 0, askText(l, i), told{a: want})
	}
	for i, want := range map[int]string{4: "pa\x00rt\u20AC", 10: "x", 13: "x"} {
		wantTold(t, "ClassName", l, i, 0, askClass(l, i), told{a: want})
	}
	wantTold(t, "Num", l, 2, 2, askNum(l, 2, 2), told{n: -1})
	wantTold(t, "Num", l, 12, 2, askNum(l, 12, 2), told{n: math.MaxInt32})
	wantTold(t, "Num", l, 7, 3, askNum(l, 7, 3), told{n: 64})
	wantTold(t, "Num", l, 15, 3, askNum(l, 15, 3), told{n: math.MinInt64})
	wantTold(t, "Ref", l, 1, 5, askRef(l, 1, 5), told{"pa\x00rt\u20AC", "x", "I", 0, api.OK})
	wantTold(t, "Ref", l, 9, 6, askRef(l, 9, 6), told{"x", "pa\x00rt\u20AC", "()V", 0, api.OK})
	wantTold(t, "Ref", l, 14, 5, askRef(l, 14, 5), told{"x", "x", "x", 0, api.OK})
	wantTold(t, "Ref", l, 16, 6, askRef(l, 16, 6), told{"pa\x00rt\u20AC", "x", "I", 0, api.OK})
}

// places are those of a list, and such as are none.
func places(l []api.Const) []int {
	n := []int{-1, -2, len(l), len(l) + 1, 1 << 32, 1<<32 + 1, math.MinInt64, math.MaxInt64}
	for i := range l {
		n = append(n, i)
	}
	return n
}

func TestP43EachPlace(t *testing.T) {
	for _, l := range good() {
		for _, i := range places(l) {
			wantAll(t, l, i)
		}
	}
	l := many(4096)
	for _, i := range []int{-1, 0, 1, 2, 3, 4, 5, 6, 7, 8, 4087, 4088, 4089, 4090, 4091, 4092, 4093, 4094, 4095, 4096, 4097} {
		wantAll(t, l, i)
	}
}

func TestP43ListsThatMayNotBe(t *testing.T) {
	for _, l := range spoilt() {
		for i := -1; i <= len(l); i++ {
			wantAll(t, l, i)
		}
	}
	// What is told hangs on the kinds alone: neither on how many there are, nor on fields that are not asked for.
	long := slices.Repeat([]api.Const{num(9)}, 5000)
	long[4998], long[4999] = txt("far"), class(4998)
	for _, i := range []int{0, 1, 4096, 4998, 4999, 5000} {
		wantAll(t, long, i)
	}
	wantTold(t, "ClassName", long, 4999, 0, askClass(long, 4999), told{a: "far"})
}

func TestP43Misnamed(t *testing.T) {
	l := []api.Const{txt("first"), txt("a"), class(1), class(2), class(-1), class(99), class(6), class(0), num(1 << 40), {Kind: 1, Text: "\xFF", N: 4}, class(9)}
	for a := -1; a <= len(l)+1; a++ {
		for b := -1; b <= len(l)+1; b++ {
			for _, c := range []int{-1, 0, 1, 2, 8, 9, len(l), len(l) + 1, len(l) + 2} {
				m := append(slices.Clone(l), field(a, b, c), method(a, b, c))
				want := told{e: api.ErrPool}
				names := map[int]string{2: "a", 7: "first", 10: "\xFF"}
				texts := map[int]string{0: "first", 1: "a", 9: "\xFF"}
				if class, ok := names[a]; ok {
					name, okName := texts[b]
					typ, okType := texts[c]
					if okName && okType {
						want = told{class, name, typ, 0, api.OK}
					}
				}
				wantTold(t, "Ref", m, 11, 5, askRef(m, 11, 5), want)
				wantTold(t, "Ref", m, 12, 6, askRef(m, 12, 6), want)
				wantTold(t, "Ref", m, 11, 6, askRef(m, 11, 6), told{e: api.ErrPool})
				wantTold(t, "Ref", m, 12, 5, askRef(m, 12, 5), told{e: api.ErrPool})
			}
		}
	}
	for i := range l {
		wantAll(t, l, i)
	}
	wantAll(t, nil, 0)
	wantAll(t, []api.Const{}, -1)
}

// guarded is a copy of a list that has spare room behind it, and all of that.
func guarded(l []api.Const) (short, whole []api.Const) {
	whole = append(slices.Clone(l), txt("spare"), class(len(l)), field(len(l)+1, len(l), len(l)))
	return whole[:len(l)], whole
}

func TestP44Untouched(t *testing.T) {
	for _, l := range append(append(good(), spoilt()...), many(300)) {
		short, whole := guarded(l)
		before := slices.Clone(whole)
		pool.Check(short)
		pool.Bytes(short)
		for _, i := range places(short) {
			pool.Text(short, i)
			pool.ClassName(short, i)
			for kind := range 8 {
				pool.Num(short, i, kind)
				pool.Ref(short, i, kind)
			}
		}
		if !slices.Equal(whole, before) {
			t.Errorf("what was handed in has become %v; it was %v", show(whole), show(before))
		}
	}
	for _, tail := range [][]byte{nil, {0}, {7, 7, 7}} {
		whole := slices.Concat(sampleBytes(), tail, []byte{1, 2, 3})
		before := bytes.Clone(whole)
		for count := range whole {
			pool.Parse(whole[:count])
			pool.Parse(whole[count:])
		}
		if !bytes.Equal(whole, before) {
			t.Errorf("what was handed in has become %x; it was %x", whole, before)
		}
	}
}

// What stands in the spare room is no part of a list.
func TestP44SpareRoom(t *testing.T) {
	l := list(txt("a"), class(3))
	short, whole := guarded(l)
	wantCheck(t, short, api.ErrPool)
	wantCheck(t, whole, api.OK)
	wantTold(t, "ClassName", short, 2, 0, askClass(short, 2), told{e: api.ErrPool})
	wantTold(t, "Text", short, 3, 0, askText(short, 3), told{e: api.ErrPool})
	wantTold(t, "Ref", short, 5, 5, askRef(short, 5, 5), told{e: api.ErrPool})
	b := sampleBytes()
	for count := range b {
		wantFault(t, b[:count], api.ErrTrunc)
	}
}

func TestP44NewBytes(t *testing.T) {
	l := sample()
	first, _ := pool.Bytes(l)
	second, _ := pool.Bytes(l)
	grown := append(second, 1, 2, 3)
	for _, b := range [][]byte{second, grown} {
		for i := range b {
			b[i] ^= 0xFF
		}
	}
	if !bytes.Equal(first, sampleBytes()) || !slices.Equal(l, sample()) {
		t.Errorf("two answers share memory: %x", first)
	}
	wantBytes(t, l, sampleBytes())
}

func TestP44NewLists(t *testing.T) {
	handed := append(sampleBytes(), 7, 8, 9)
	l, rest, e := pool.Parse(handed)
	m, more, _ := pool.Parse(handed)
	clear(handed)
	if e != api.OK || !slices.Equal(l, sample()) || !bytes.Equal(rest, []byte{7, 8, 9}) {
		t.Errorf("what was answered changes with what was handed in: %v, %x, %d", show(l), rest, e)
	}
	clear(append(l, l...))
	clear(l)
	clear(append(rest, 1, 2))
	clear(rest)
	if !slices.Equal(m, sample()) || !bytes.Equal(more, []byte{7, 8, 9}) || !bytes.Equal(handed, make([]byte, len(handed))) {
		t.Errorf("two answers share memory: %v, %x, %x", show(m), more, handed)
	}
	b := sampleBytes()
	_, rest, _ = pool.Parse(b)
	_ = append(rest, 1, 2, 3)
	if !bytes.Equal(b, sampleBytes()) {
		t.Errorf("what was handed in changes with what was answered: %x", b)
	}
}

// within tells whether a text lies in the memory of another one.
func within(s string, in []byte) bool {
	from, at := uintptr(unsafe.Pointer(unsafe.SliceData(in))), uintptr(unsafe.Pointer(unsafe.StringData(s)))
	return len(s) > 0 && at >= from && at < from+uintptr(cap(in))
}

func TestP44NewTexts(t *testing.T) {
	memory := []byte("some text")
	s := unsafe.String(&memory[0], len(memory))
	l := list(txt(s), class(1), field(2, 1, 1), method(2, 1, 1))
	var told []string
	text, _ := pool.Text(l, 1)
	name, _ := pool.ClassName(l, 2)
	told = append(told, text, name)
	for i, kind := range map[int]int{3: api.ConstField, 4: api.ConstMethod} {
		a, b, c, _ := pool.Ref(l, i, kind)
		told = append(told, a, b, c)
	}
	handed, _ := pool.Bytes(l)
	read, _, _ := pool.Parse(handed)
	told = append(told, read[1].Text)
	for i, got := range told {
		if got != "some text" || within(got, memory) || within(got, handed) {
			t.Errorf("text %d, %q, lies in what was handed in", i, got)
		}
	}
}

func TestP45WrittenIsRead(t *testing.T) {
	ends := list(num(math.MinInt32), num(math.MaxInt32), long(math.MinInt64), long(math.MaxInt64), txt(""), txt("\x00\x7F\u0080\uFFFF\U00010000\U0010FFFF"), class(5), class(6), method(8, 6, 5))
	for _, l := range append(good(), ends, many(4096), many(4095), many(129), many(128)) {
		b, e := pool.Bytes(l)
		if e != api.OK {
			t.Errorf("Bytes(%v): %d", show(l), e)
		}
		for _, tail := range [][]byte{nil, {0}, {0xFF}, b} {
			wantParsed(t, slices.Concat(b, tail), l, tail)
		}
	}
}

func TestP45EachNumber(t *testing.T) {
	for k := range 64 {
		for d := -2; d <= 2; d++ {
			for _, n := range []int{1<<k + d, -1<<k + d} {
				l := list(long(n))
				if int(int32(n)) == n {
					l = append(l, num(n))
				}
				b, _ := pool.Bytes(l)
				wantParsed(t, append(b, 0x80), l, []byte{0x80})
			}
		}
	}
	for r := rune(0); r <= utf8.MaxRune; r += 37 {
		if utf8.ValidRune(r) {
			l := list(txt(string([]rune{r, 'a', r})))
			b, _ := pool.Bytes(l)
			wantParsed(t, append(b, 0x80), l, []byte{0x80})
		}
	}
}

// mixed are bytes of all kinds, some more often, that hang on a number alone.
func mixed(seed, count int) []byte {
	telling := []byte{0, 1, 1, 1, 2, 2, 3, 3, 4, 4, 5, 5, 6, 6, 7, 'a', 0x3F, 0x40, 0x7F, 0x80, 0xC0, 0xFF}
	b := make([]byte, count)
	at := uint32(seed)
	for i := range b {
		at = at*1664525 + 1013904223
		b[i] = telling[int(at>>16)%len(telling)]
	}
	return b
}

func TestP45ReadIsWritten(t *testing.T) {
	good := 0
	for seed := range 100000 {
		b := mixed(seed, 1+seed%24)
		b[0] = byte(1 + seed%6)
		wantRead(t, b)
		if l, rest, e := pool.Parse(b); e == api.OK && len(l) > 1 {
			good++
			wantCheck(t, l, api.OK)
			row, _ := pool.Bytes(l)
			if !bytes.Equal(append(row, rest...), b) {
				t.Errorf("%x is written %x", b, row)
			}
		}
	}
	if good < 1000 {
		t.Errorf("just %d rows of bytes were constants", good)
	}
}

func TestP46JustOne(t *testing.T) {
	for _, l := range append(good(), many(4090)) {
		if pool.Check(l) != api.OK {
			t.Fatalf("%v may not be", show(l))
		}
		for i, c := range l {
			answers := map[string]api.Errno{"Text": askText(l, i).e, "ClassName": askClass(l, i).e}
			nums, refs := 0, 0
			for kind := -1; kind <= 8; kind++ {
				if askNum(l, i, kind).e == api.OK {
					nums++
				}
				if askRef(l, i, kind).e == api.OK {
					refs++
				}
			}
			tellers := nums + refs
			for _, e := range answers {
				if e == api.OK {
					tellers++
				}
			}
			if tellers != min(i, 1) {
				t.Fatalf("constant %d, of kind %d, is told by %d calls", i, c.Kind, tellers)
			}
		}
	}
}

func TestP46RightOne(t *testing.T) {
	for _, l := range good() {
		for i, c := range l {
			ok := map[int]bool{
				0: i == 0,
				1: askText(l, i).e == api.OK,
				2: askNum(l, i, api.ConstInt).e == api.OK,
				3: askNum(l, i, api.ConstLong).e == api.OK,
				4: askClass(l, i).e == api.OK,
				5: askRef(l, i, api.ConstField).e == api.OK,
				6: askRef(l, i, api.ConstMethod).e == api.OK,
			}
			for kind, told := range ok {
				if told != (c.Kind == kind) {
					t.Errorf("constant %d of %v, as of kind %d: %t", i, show(l), kind, told)
				}
			}
		}
	}
}

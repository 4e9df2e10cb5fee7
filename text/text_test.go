package text

import (
	"bytes"
	"slices"
	"strings"
	"testing"
	"unicode/utf8"

	"warpbeam/api"
)

// edge is a character at an edge that the document names, with its bytes.
type edge struct {
	r rune
	b []byte
}

func edges() []edge {
	return []edge{
		{0, []byte{0xC0, 0x80}}, {1, []byte{1}}, {'A', []byte{0x41}}, {0x7F, []byte{0x7F}},
		{0x80, []byte{0xC2, 0x80}}, {0xFF, []byte{0xC3, 0xBF}}, {0x7FF, []byte{0xDF, 0xBF}},
		{0x800, []byte{0xE0, 0xA0, 0x80}}, {0x20AC, []byte{0xE2, 0x82, 0xAC}}, {0xD7FF, []byte{0xED, 0x9F, 0xBF}}, {0xE000, []byte{0xEE, 0x80, 0x80}},
		{0xFEFF, []byte{0xEF, 0xBB, 0xBF}}, {0xFFFD, []byte{0xEF, 0xBF, 0xBD}}, {0xFFFF, []byte{0xEF, 0xBF, 0xBF}},
		{0x10000, []byte{0xED, 0xA0, 0x80, 0xED, 0xB0, 0x80}}, {0x103FF, []byte{0xED, 0xA0, 0x80, 0xED, 0xBF, 0xBF}}, {0x10400, []byte{0xED, 0xA0, 0x81, 0xED, 0xB0, 0x80}},
		{0x1F600, []byte{0xED, 0xA0, 0xBD, 0xED, 0xB8, 0x80}}, {0x10FC00, []byte{0xED, 0xAF, 0xBF, 0xED, 0xB0, 0x80}}, {0x10FFFF, []byte{0xED, 0xAF, 0xBF, 0xED, 0xBF, 0xBF}},
	}
}

// characters are all that there are.
func characters() []rune {
	var l []rune
	for r := rune(0); r <= 0x10FFFF; r++ {
		if r < 0xD800 || r > 0xDFFF {
			l = append(l, r)
		}
	}
	return l
}

// bytesOf is a character's bytes, worked out from its bits one by one, by the document's words.
func bytesOf(r rune) []byte {
	bits := func(of rune, high, low int) byte {
		n := 0
		for at := high; at >= low; at-- {
			n = 2*n + int(of>>at)%2
		}
		return byte(n)
	}
	three := func(of rune) []byte {
		return []byte{0xE0 + bits(of, 15, 12), 0x80 + bits(of, 11, 6), 0x80 + bits(of, 5, 0)}
	}
	switch {
	case r >= 1 && r <= 0x7F:
		return []byte{byte(r)}
	case r <= 0x7FF:
		return []byte{0xC0 + bits(r, 10, 6), 0x80 + bits(r, 5, 0)}
	case r <= 0xFFFF:
		return three(r)
	}
	less := r - 0x10000
	return slices.Concat(three(0xD800+less/1024), three(0xDC00+less%1024))
}

// span is bytes from one up to another one.
type span struct{ from, to byte }

// shapes are all the ways in which a character may be written, byte by byte.
func shapes() [][]span {
	tail := span{0x80, 0xBF}
	lead := span{0xED, 0xED}
	return [][]span{
		{{1, 0x7F}},
		{{0xC0, 0xC0}, {0x80, 0x80}},
		{{0xC2, 0xDF}, tail},
		{{0xE0, 0xE0}, {0xA0, 0xBF}, tail},
		{{0xE1, 0xEC}, tail, tail},
		{lead, {0x80, 0x9F}, tail},
		{{0xEE, 0xEF}, tail, tail},
		{lead, {0xA0, 0xAF}, tail, lead, {0xB0, 0xBF}, tail},
	}
}

func hasShape(b []byte, shape []span) bool {
	if len(b) < len(shape) {
		return false
	}
	for i, s := range shape {
		if b[i] < s.from || b[i] > s.to {
			return false
		}
	}
	return true
}

// faultOf is where the first character begins that has no shape: at the end, if b is a text's.
func faultOf(b []byte, l [][]span) int {
	at := 0
	for at < len(b) {
		i := slices.IndexFunc(l, func(shape []span) bool { return hasShape(b[at:], shape) })
		if i < 0 {
			break
		}
		at += len(l[i])
	}
	return at
}

// wantText holds all three calls against a text and its bytes.
func wantText(t *testing.T, s string, want []byte) {
	t.Helper()
	if b, e := Encode(s); e != api.OK || !bytes.Equal(b, want) {
		t.Errorf("Encode(%q): %x, %d; want %x", s, b, e, want)
	}
	if n, e := Len(s); e != api.OK || n != len(want) {
		t.Errorf("Len(%q): %d, %d; want %d", s, n, e, len(want))
	}
	if got, at, e := Decode(want); e != api.OK || at != 0 || got != s {
		t.Errorf("Decode(%x): %q, %d, %d; want %q", want, got, at, e, s)
	}
}

func wantNoText(t *testing.T, s string) {
	t.Helper()
	if b, e := Encode(s); e != api.ErrText || len(b) != 0 {
		t.Errorf("Encode(%q): %x, %d; want ErrText", s, b, e)
	}
	if n, e := Len(s); e != api.ErrText || n != 0 {
		t.Errorf("Len(%q): %d, %d; want ErrText", s, n, e)
	}
}

func wantFault(t *testing.T, b []byte, want int) {
	t.Helper()
	if s, at, e := Decode(b); e != api.ErrText || at != want || s != "" {
		t.Errorf("Decode(%x): %q, %d, %d; want ErrText at %d", b, s, at, e, want)
	}
}

// wantRead holds Decode against the shapes, and what it reads against Encode.
func wantRead(t *testing.T, b []byte, l [][]span) {
	t.Helper()
	fault := faultOf(b, l)
	s, at, e := Decode(b)
	if fault < len(b) {
		if e != api.ErrText || at != fault || s != "" {
			t.Fatalf("Decode(%x): %q, %d, %d; want ErrText at %d", b, s, at, e, fault)
		}
		return
	}
	if e != api.OK || at != 0 || !utf8.ValidString(s) {
		t.Fatalf("Decode(%x): %q, %d, %d; want a text", b, s, at, e)
	}
	if again, e := Encode(s); e != api.OK || !bytes.Equal(again, b) {
		t.Fatalf("Decode(%x): %q, which is encoded %x, %d", b, s, again, e)
	}
}

func TestP21Edges(t *testing.T) {
	wantText(t, "", nil)
	var all string
	var row []byte
	for _, c := range edges() {
		wantText(t, string(c.r), c.b)
		wantText(t, "x"+string(c.r)+string(c.r)+"y", slices.Concat([]byte{'x'}, c.b, c.b, []byte{'y'}))
		all += string(c.r)
		row = append(row, c.b...)
	}
	wantText(t, all, row)
	wantText(t, "A\x00\u07FF\u0800", []byte{0x41, 0xC0, 0x80, 0xDF, 0xBF, 0xE0, 0xA0, 0x80})
	wantText(t, "main$_0(I[JLx;)V", []byte("main$_0(I[JLx;)V"))
}

func TestP21EachCharacter(t *testing.T) {
	for _, r := range characters() {
		s, want := string(r), bytesOf(r)
		b, e := Encode(s)
		n, f := Len(s)
		if e != api.OK || f != api.OK || !bytes.Equal(b, want) || n != len(want) {
			t.Fatalf("%x: %x, %d; %d, %d; want %x", r, b, e, n, f, want)
		}
	}
}

func TestP21NoText(t *testing.T) {
	for _, s := range []string{
		"\x80", "\xBF", "\xC0", "\xC0\x80", "\xC1\xBF", "\xC2", "\xDF\x7F", "\xE0\xA0", "\xE0\x80\x80", "\xE0\x9F\xBF",
		"\xED\xA0\x80", "\xED\xAF\xBF", "\xED\xB0\x80", "\xED\xBF\xBF", "\xED\xA0\x80\xED\xB0\x80", // surrogates, and a pair of them
		"\xF0\x80\x80\x80", "\xF0\x8F\xBF\xBF", "\xF0\x90\x80", "\xF4\x90\x80\x80", "\xF5\x80\x80\x80", "\xF8", "\xFE", "\xFF", "\xFF\xFF",
	} {
		wantNoText(t, s)
		wantNoText(t, "A"+s)
		wantNoText(t, s+"A")
		wantNoText(t, "\uFFFD"+s+"\x00")
		wantNoText(t, strings.Repeat("\U0010FFFF", 100)+s)
	}
	for c := 0x80; c <= 0xFF; c++ {
		wantNoText(t, string([]byte{byte(c)}))
	}
	wantText(t, "\uFFFD", []byte{0xEF, 0xBF, 0xBD}) // what stands for bytes that are wrong elsewhere is a character here
}

func TestP22NoText(t *testing.T) {
	for _, c := range []struct {
		b  []byte
		at int
	}{
		{[]byte{0}, 0}, {[]byte{0x41, 0}, 1}, {[]byte{0, 0x41}, 0}, {[]byte{0x41, 0, 0x41}, 1}, // a byte 0
		{[]byte{0x80}, 0}, {[]byte{0xBF, 0x80}, 0}, {[]byte{0x41, 0x80}, 1}, {[]byte{0xC2, 0x80, 0x80}, 2}, {[]byte{0xF8}, 0}, {[]byte{0xFF}, 0}, // begins nothing
		{[]byte{0xC0}, 0}, {[]byte{0x41, 0xC2}, 1}, {[]byte{0xE0}, 0}, {[]byte{0x41, 0xE0, 0xA0}, 1}, {[]byte{0xEF, 0xBF}, 0}, // cut
		{[]byte{0xC2, 0x41}, 0}, {[]byte{0xC2, 0xC2, 0x80}, 0}, {[]byte{0xE1, 0x80, 0x41}, 0}, {[]byte{0xE1, 0x41, 0x80}, 0}, {[]byte{0xE1, 0x80, 0xC0}, 0}, {[]byte{0xDF, 0xFF}, 0}, // cut by another one
		{[]byte{0x41, 0xC0, 0x81}, 1}, {[]byte{0xC0, 0xBF}, 0}, {[]byte{0xC1, 0x80}, 0}, {[]byte{0xC1, 0xBF}, 0}, {[]byte{0xE0, 0x80, 0x80}, 0}, {[]byte{0xE0, 0x81, 0x81}, 0}, {[]byte{0xE0, 0x9F, 0xBF}, 0}, // longer than need be
		{[]byte{0xF0, 0x90, 0x80, 0x80}, 0}, {[]byte{0xF0, 0x9F, 0x98, 0x80}, 0}, {[]byte{0xF4, 0x8F, 0xBF, 0xBF}, 0}, {[]byte{0xDF, 0xBF, 0xF0, 0x9F, 0x98, 0x80}, 2}, {[]byte{0xF0, 0x80, 0x80}, 0}, // as UTF-8 has them
	} {
		wantFault(t, c.b, c.at)
	}
}

func TestP22Halves(t *testing.T) {
	high, low := []byte{0xED, 0xA0, 0x80}, []byte{0xED, 0xB0, 0x80}
	lastHigh, lastLow := []byte{0xED, 0xAF, 0xBF}, []byte{0xED, 0xBF, 0xBF}
	x := []byte{'x'}
	for _, c := range []struct {
		parts [][]byte
		at    int
	}{
		{[][]byte{high}, 0}, {[][]byte{low}, 0}, {[][]byte{lastHigh}, 0}, {[][]byte{lastLow}, 0},
		{[][]byte{x, high}, 1}, {[][]byte{x, low}, 1}, {[][]byte{high, x}, 0}, {[][]byte{low, x}, 0},
		{[][]byte{high, high}, 0}, {[][]byte{low, low}, 0}, {[][]byte{low, high}, 0}, {[][]byte{high, high, low}, 0},
		{[][]byte{high, low, low}, 6}, {[][]byte{high, low, high}, 6}, {[][]byte{x, high, low, x, low}, 8},
		{[][]byte{high, x, low}, 0}, {[][]byte{high, {0xEE, 0x80, 0x80}}, 0}, {[][]byte{high, {0xED, 0x9F, 0xBF}}, 0}, {[][]byte{high, {0xC2, 0x80}}, 0},
		{[][]byte{high, {0xC0, 0x80}}, 0}, {[][]byte{high, {0}}, 0}, {[][]byte{high, {0xE0, 0x80, 0x80}}, 0}, {[][]byte{lastHigh, {0xF0, 0x90, 0x80, 0x80}}, 0},
	} {
		wantFault(t, slices.Concat(c.parts...), c.at)
	}
	for _, pair := range [][]byte{slices.Concat(high, low), slices.Concat(lastHigh, lastLow)} {
		for count := 1; count < len(pair); count++ {
			wantFault(t, pair[:count], 0)
			wantFault(t, slices.Concat(x, pair[:count]), 1)
			wantFault(t, slices.Concat(pair, pair[:count]), 6)
			wantFault(t, slices.Concat(pair[:count], x), 0)
		}
	}
}

func TestP22EachByteOfAPair(t *testing.T) {
	l := shapes()
	for _, pair := range [][]byte{{0xED, 0xA0, 0x80, 0xED, 0xB0, 0x80}, {0xED, 0xA5, 0x9A, 0xED, 0xBA, 0xA5}, {0xED, 0xAF, 0xBF, 0xED, 0xBF, 0xBF}} {
		for i := range pair {
			for c := range 256 {
				b := bytes.Clone(pair)
				b[i] = byte(c)
				wantRead(t, b, l)
				wantRead(t, slices.Concat([]byte{0xC3, 0xBF}, b, []byte{'x'}), l)
			}
		}
	}
}

func TestP22Rows(t *testing.T) {
	l := shapes()
	telling := []byte{0, 0x41, 0x7F, 0x80, 0x9F, 0xA0, 0xAF, 0xB0, 0xBF, 0xC0, 0xC1, 0xC2, 0xDF, 0xE0, 0xED, 0xEF, 0xF0, 0xFF}
	wantRead(t, nil, l)
	for a := range 256 {
		wantRead(t, []byte{byte(a)}, l)
		for b := range 256 {
			wantRead(t, []byte{byte(a), byte(b)}, l)
			for _, c := range telling {
				wantRead(t, []byte{byte(a), byte(b), c}, l)
				wantRead(t, []byte{0xE4, c, byte(a), byte(b)}, l)
				wantRead(t, []byte{0xED, 0xA5, c, byte(a), byte(b), 0x80}, l)
			}
		}
	}
}

func TestP23Untouched(t *testing.T) {
	for _, c := range edges() {
		handed := slices.Concat(c.b, c.b, []byte{0, 0xFF})
		before := bytes.Clone(handed)
		whole := handed[:2*len(c.b)]
		s, _, e := Decode(whole)
		if e != api.OK || s != string(c.r)+string(c.r) {
			t.Errorf("Decode(%x): %q, %d", whole, s, e)
			continue
		}
		wantFault(t, handed, len(whole))
		if !bytes.Equal(handed, before) {
			t.Errorf("what was handed in has become %x; it was %x", handed, before)
		}
		clear(handed)
		if s != string(c.r)+string(c.r) {
			t.Errorf("what was answered changes with what was handed in: %q", s)
		}
	}
}

func TestP23SpareRoom(t *testing.T) {
	for _, c := range edges() {
		for count := 1; count < len(c.b); count++ {
			wantFault(t, c.b[:count], 0)
		}
		if s, at, e := Decode(c.b[:0]); s != "" || at != 0 || e != api.OK {
			t.Errorf("Decode of no byte: %q, %d, %d", s, at, e)
		}
	}
}

func TestP23NewMemory(t *testing.T) {
	for _, c := range edges() {
		s := "x" + string(c.r)
		first, _ := Encode(s)
		kept := bytes.Clone(first)
		second, _ := Encode(s)
		grown := append(second, 1, 2, 3)
		for _, b := range [][]byte{second, grown} {
			for i := range b {
				b[i] ^= 0xFF
			}
		}
		third, _ := Encode(s)
		if !bytes.Equal(first, kept) || !bytes.Equal(third, kept) {
			t.Errorf("%q: two answers share memory", s)
		}
		if s != "x"+string(c.r) {
			t.Errorf("what was handed in has become %q", s)
		}
	}
}

func TestP24RoundTrip(t *testing.T) {
	var all strings.Builder
	for _, r := range characters() {
		all.WriteRune(r)
		s := string(r)
		b, _ := Encode(s)
		if got, at, e := Decode(b); got != s || at != 0 || e != api.OK {
			t.Fatalf("%x: %q, %d, %d", r, got, at, e)
		}
	}
	b, e := Encode(all.String())
	n, f := Len(all.String())
	if e != api.OK || f != api.OK || n != len(b) {
		t.Fatalf("all characters: %d bytes, %d; %d, %d", len(b), e, n, f)
	}
	if s, at, e := Decode(b); s != all.String() || at != 0 || e != api.OK {
		t.Errorf("all characters: %d bytes, %d, %d", len(s), at, e)
	}
}

func TestP24OneBehindTheOther(t *testing.T) {
	for _, a := range edges() {
		for _, c := range edges() {
			for _, d := range edges() {
				wantText(t, string([]rune{a.r, c.r, d.r}), slices.Concat(a.b, c.b, d.b))
			}
			wantFault(t, slices.Concat(a.b, c.b, []byte{0}), len(a.b)+len(c.b))
			if len(c.b) > 1 {
				wantFault(t, slices.Concat(a.b, c.b[:len(c.b)-1], a.b), len(a.b))
			}
		}
	}
}

func TestP25Bytes(t *testing.T) {
	for _, r := range characters() {
		b, e := Encode(string(r))
		if e != api.OK {
			t.Fatalf("%x: %d", r, e)
		}
		for _, c := range b {
			if c == 0 {
				t.Fatalf("%x has a byte 0: %x", r, b)
			}
			if c <= 0x7F && (rune(c) != r || len(b) != 1) {
				t.Fatalf("%x has a byte that stands for itself: %x", r, b)
			}
		}
		if r >= 1 && r <= 0x7F && !bytes.Equal(b, []byte{byte(r)}) {
			t.Fatalf("%x does not stand for itself: %x", r, b)
		}
	}
	for c := range 256 {
		s, at, e := Decode([]byte{byte(c)})
		if itself := c >= 1 && c <= 0x7F; itself != (e == api.OK) || itself && s != string(rune(c)) || at != 0 {
			t.Errorf("byte %x: %q, %d, %d", c, s, at, e)
		}
	}
}

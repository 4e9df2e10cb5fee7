package leb

import (
	"bytes"
	"math"
	"math/big"
	"slices"
	"testing"

	"warpbeam/api"
)

// taker is one of the calls that take a number off the beginning of bytes.
type taker func(b []byte) (int, []byte, api.Errno)

func takeBigOf(size int) taker {
	return func(b []byte) (int, []byte, api.Errno) { return TakeBig(b, size) }
}

func takeBigSOf(size int) taker {
	return func(b []byte) (int, []byte, api.Errno) { return TakeBigS(b, size) }
}

// takers are all of them, each with bytes that it takes whole.
func takers() map[string]struct {
	take taker
	row  []byte
} {
	return map[string]struct {
		take taker
		row  []byte
	}{
		"TakeU":    {TakeU, []byte{0x80, 1}},
		"TakeS":    {TakeS, []byte{0xC0, 0}},
		"TakeBig":  {takeBigOf(2), []byte{1, 2}},
		"TakeBigS": {takeBigSOf(2), []byte{0xFF, 2}},
	}
}

// repeat is count bytes of one kind, and the last ones behind them.
func repeat(c byte, count int, last ...byte) []byte {
	return append(bytes.Repeat([]byte{c}, count), last...)
}

// ends are numbers around all powers of 2, on both sides of 0.
func ends() []int {
	l := []int{0, math.MaxInt64, math.MinInt64}
	for k := range 63 {
		for d := -2; d <= 2; d++ {
			l = append(l, 1<<k+d, -1<<k+d)
		}
	}
	return l
}

func wantError(t *testing.T, what string, n int, rest []byte, e, want api.Errno) {
	t.Helper()
	if e != want || n != 0 || len(rest) != 0 {
		t.Errorf("%s: %d, %x, %d; want error %d and nothing beside it", what, n, rest, e, want)
	}
}

// wantTaken holds take against a row that stands alone, and with bytes behind it.
func wantTaken(t *testing.T, what string, take taker, row []byte, want int) {
	t.Helper()
	for _, behind := range [][]byte{nil, {0}, {0x80}, {9, 0xFF, 0x7F}} {
		n, rest, e := take(slices.Concat(row, behind))
		if e != api.OK || n != want || !bytes.Equal(rest, behind) {
			t.Errorf("%s of %x %x: %d, %x, %d; want %d", what, row, behind, n, rest, e, want)
		}
	}
}

func TestP11U(t *testing.T) {
	for _, c := range []struct {
		n    int
		want []byte
	}{
		{0, []byte{0}}, {1, []byte{1}}, {127, []byte{0x7F}}, {128, []byte{0x80, 1}}, {300, []byte{0xAC, 2}},
		{16383, []byte{0xFF, 0x7F}}, {16384, []byte{0x80, 0x80, 1}},
		{1<<49 - 1, repeat(0xFF, 6, 0x7F)}, {1 << 49, repeat(0x80, 7, 1)},
		{api.MaxNumber, repeat(0xFF, 7, 0x0F)},
	} {
		if b, e := U(c.n); e != api.OK || !bytes.Equal(b, c.want) {
			t.Errorf("U(%d): %x, %d; want %x", c.n, b, e, c.want)
		}
		wantTaken(t, "TakeU", TakeU, c.want, c.n)
	}
	for _, n := range []int{-1, -128, api.MaxNumber + 1, math.MaxInt64, math.MinInt64} {
		if b, e := U(n); e != api.ErrRange || len(b) != 0 {
			t.Errorf("U(%d): %x, %d; want ErrRange", n, b, e)
		}
	}
}

func TestP11TakeUWrong(t *testing.T) {
	for _, c := range []struct {
		b []byte
		e api.Errno
	}{
		{nil, api.ErrTrunc}, {[]byte{}, api.ErrTrunc}, {[]byte{0x80}, api.ErrTrunc}, {[]byte{0xFF, 0x80}, api.ErrTrunc}, {repeat(0xFF, 7), api.ErrTrunc},
		{repeat(0x80, 8), api.ErrSyntax}, {repeat(0xFF, 8, 0), api.ErrSyntax}, {repeat(0x80, 8, 1), api.ErrSyntax},
		{[]byte{0x80, 0}, api.ErrSyntax}, {[]byte{0xFF, 0}, api.ErrSyntax}, {[]byte{0x80, 0x80, 0}, api.ErrSyntax}, {repeat(0xFF, 7, 0), api.ErrSyntax},
		{repeat(0x80, 7, 0x10), api.ErrSyntax}, {repeat(0xFF, 7, 0x10), api.ErrSyntax}, {repeat(0xFF, 7, 0x7F), api.ErrSyntax}, {repeat(0x80, 7, 0x40), api.ErrSyntax},
	} {
		n, rest, e := TakeU(c.b)
		wantError(t, "TakeU", n, rest, e, c.e)
		if c.e == api.ErrSyntax {
			n, rest, e = TakeU(append(c.b, 1, 2))
			wantError(t, "TakeU with bytes behind", n, rest, e, c.e)
		}
	}
	// 0 and a number whose digits are 0 further down are not longer than need be.
	wantTaken(t, "TakeU", TakeU, []byte{0}, 0)
	wantTaken(t, "TakeU", TakeU, repeat(0x80, 7, 0x0F), 15<<49)
}

func TestP12S(t *testing.T) {
	for _, c := range []struct {
		n    int
		want []byte
	}{
		{0, []byte{0}}, {1, []byte{1}}, {-1, []byte{0x7F}}, {63, []byte{0x3F}}, {64, []byte{0xC0, 0}}, {-64, []byte{0x40}}, {-65, []byte{0xBF, 0x7F}},
		{127, []byte{0xFF, 0}}, {128, []byte{0x80, 1}}, {-128, []byte{0x80, 0x7F}}, {-129, []byte{0xFF, 0x7E}},
		{8191, []byte{0xFF, 0x3F}}, {8192, []byte{0x80, 0xC0, 0}}, {-8192, []byte{0x80, 0x40}}, {-8193, []byte{0xFF, 0xBF, 0x7F}},
		{1<<62 - 1, repeat(0xFF, 8, 0x3F)}, {1 << 62, repeat(0x80, 8, 0xC0, 0)}, {-1 << 62, repeat(0x80, 8, 0x40)}, {-1<<62 - 1, repeat(0xFF, 8, 0xBF, 0x7F)},
		{math.MaxInt64, repeat(0xFF, 9, 0)}, {math.MinInt64, repeat(0x80, 9, 0x7F)},
	} {
		if b := S(c.n); !bytes.Equal(b, c.want) {
			t.Errorf("S(%d): %x; want %x", c.n, b, c.want)
		}
		wantTaken(t, "TakeS", TakeS, c.want, c.n)
	}
}

func TestP12TakeSWrong(t *testing.T) {
	for _, c := range []struct {
		b []byte
		e api.Errno
	}{
		{nil, api.ErrTrunc}, {[]byte{}, api.ErrTrunc}, {[]byte{0x80}, api.ErrTrunc}, {[]byte{0xFF}, api.ErrTrunc}, {repeat(0x80, 9), api.ErrTrunc}, {repeat(0xFF, 9), api.ErrTrunc},
		{repeat(0x80, 10), api.ErrSyntax}, {repeat(0xFF, 10), api.ErrSyntax}, {repeat(0x80, 10, 0), api.ErrSyntax}, {repeat(0xFF, 10, 0x7F), api.ErrSyntax},
		{[]byte{0x80, 0}, api.ErrSyntax}, {[]byte{0xBF, 0}, api.ErrSyntax}, {[]byte{0xFF, 0x7F}, api.ErrSyntax}, {[]byte{0xC0, 0x7F}, api.ErrSyntax},
		{[]byte{0x80, 0x80, 0}, api.ErrSyntax}, {[]byte{0xFF, 0xFF, 0x7F}, api.ErrSyntax},
		{repeat(0xFF, 8, 0xBF, 0), api.ErrSyntax}, {repeat(0x80, 8, 0xC0, 0x7F), api.ErrSyntax}, {repeat(0xFF, 9, 0x7F), api.ErrSyntax}, {repeat(0x80, 9, 0), api.ErrSyntax},
	} {
		n, rest, e := TakeS(c.b)
		wantError(t, "TakeS", n, rest, e, c.e)
		if c.e == api.ErrSyntax {
			n, rest, e = TakeS(append(c.b, 1, 2))
			wantError(t, "TakeS with bytes behind", n, rest, e, c.e)
		}
	}
}

func TestP12TenthByte(t *testing.T) {
	for _, ninth := range []byte{0x80, 0xBF, 0xC0, 0xFF} {
		for tenth := range 256 {
			row := append(repeat(0xA5, 8, ninth), byte(tenth))
			n, rest, e := TakeS(row)
			// The ninth byte's bit 6 is the number's bit 62: with the same sign above it the tenth one is one too many.
			if tenth == 0 && ninth&0x40 != 0 || tenth == 127 && ninth&0x40 == 0 {
				if e != api.OK || len(rest) != 0 || (n < 0) != (tenth == 127) || !bytes.Equal(S(n), row) {
					t.Errorf("TakeS(%x): %d, %x, %d", row, n, rest, e)
				}
				continue
			}
			wantError(t, "TakeS with a tenth byte that may not be", n, rest, e, api.ErrSyntax)
		}
	}
}

func TestP13Big(t *testing.T) {
	for _, c := range []struct {
		n, size int
		want    []byte
	}{
		{0, 1, []byte{0}}, {255, 1, []byte{0xFF}}, {-1, 1, []byte{0xFF}}, {-128, 1, []byte{0x80}}, {128, 1, []byte{0x80}},
		{258, 2, []byte{1, 2}}, {-2, 2, []byte{0xFF, 0xFE}}, {1, 3, []byte{0, 0, 1}}, {-1, 3, []byte{0xFF, 0xFF, 0xFF}},
		{0x01020304, 4, []byte{1, 2, 3, 4}}, {0x0102030405, 5, []byte{1, 2, 3, 4, 5}}, {0x010203040506, 6, []byte{1, 2, 3, 4, 5, 6}},
		{1<<56 - 1, 7, repeat(0xFF, 7)}, {-1 << 55, 7, repeat(0x80, 1, 0, 0, 0, 0, 0, 0)},
		{0x0102030405060708, 8, []byte{1, 2, 3, 4, 5, 6, 7, 8}}, {math.MaxInt64, 8, repeat(0x7F, 1, repeat(0xFF, 7)...)}, {math.MinInt64, 8, repeat(0x80, 1, repeat(0, 7)...)}, {-1, 8, repeat(0xFF, 8)},
	} {
		if b, e := Big(c.n, c.size); e != api.OK || !bytes.Equal(b, c.want) {
			t.Errorf("Big(%d, %d): %x, %d; want %x", c.n, c.size, b, e, c.want)
		}
	}
}

func TestP13BigEnds(t *testing.T) {
	for size := 1; size <= 7; size++ {
		least, most := -1<<(8*size-1), 1<<(8*size)-1
		for _, n := range []int{least, -1, 0, most} {
			if b, e := Big(n, size); e != api.OK || len(b) != size {
				t.Errorf("Big(%d, %d): %x, %d", n, size, b, e)
			}
		}
		for _, n := range []int{least - 1, most + 1, math.MinInt64, math.MaxInt64} {
			if b, e := Big(n, size); e != api.ErrRange || len(b) != 0 {
				t.Errorf("Big(%d, %d): %x, %d; want ErrRange", n, size, b, e)
			}
		}
	}
}

func TestP13BigSizes(t *testing.T) {
	row := repeat(1, 20)
	for _, size := range []int{math.MinInt64, -8, -1, 0, 9, 10, 64, math.MaxInt64} {
		for _, n := range []int{0, math.MaxInt64, math.MinInt64} {
			if b, e := Big(n, size); e != api.ErrArg || len(b) != 0 {
				t.Errorf("Big(%d, %d): %x, %d; want ErrArg", n, size, b, e)
			}
		}
		for _, b := range [][]byte{nil, row} {
			n, rest, e := TakeBig(b, size)
			wantError(t, "TakeBig", n, rest, e, api.ErrArg)
			n, rest, e = TakeBigS(b, size)
			wantError(t, "TakeBigS", n, rest, e, api.ErrArg)
		}
	}
	for _, b := range [][]byte{nil, row} {
		n, rest, e := TakeBig(b, 8)
		wantError(t, "TakeBig of 8", n, rest, e, api.ErrArg)
	}
	wantTaken(t, "TakeBigS of 8", takeBigSOf(8), repeat(1, 8), 0x0101010101010101)
}

func TestP13TakeBig(t *testing.T) {
	for size := 1; size <= 8; size++ {
		half := 1 << (8*size - 1)
		if size <= 7 {
			wantTaken(t, "TakeBig", takeBigOf(size), repeat(0, size), 0)
			wantTaken(t, "TakeBig", takeBigOf(size), repeat(0x7F, 1, repeat(0xFF, size-1)...), half-1)
			wantTaken(t, "TakeBig", takeBigOf(size), repeat(0x80, 1, repeat(0, size-1)...), half)
			wantTaken(t, "TakeBig", takeBigOf(size), repeat(0xFF, size), 2*half-1)
		}
		wantTaken(t, "TakeBigS", takeBigSOf(size), repeat(0, size), 0)
		wantTaken(t, "TakeBigS", takeBigSOf(size), repeat(0x7F, 1, repeat(0xFF, size-1)...), half-1)
		wantTaken(t, "TakeBigS", takeBigSOf(size), repeat(0x80, 1, repeat(0, size-1)...), -half)
		wantTaken(t, "TakeBigS", takeBigSOf(size), repeat(0xFF, size), -1)
		for count := range size {
			n, rest, e := TakeBigS(repeat(0xFF, count), size)
			wantError(t, "TakeBigS", n, rest, e, api.ErrTrunc)
			if size <= 7 {
				n, rest, e = TakeBig(repeat(0xFF, count), size)
				wantError(t, "TakeBig", n, rest, e, api.ErrTrunc)
			}
		}
	}
	wantTaken(t, "TakeBig", takeBigOf(2), []byte{0xFF, 0xFE}, 65534)
	wantTaken(t, "TakeBigS", takeBigSOf(2), []byte{0xFF, 0xFE}, -2)
}

func TestP14Untouched(t *testing.T) {
	for name, c := range takers() {
		handed := slices.Concat(c.row, []byte{5, 6, 7}, []byte{8, 9})
		before := bytes.Clone(handed)
		b := handed[:len(c.row)+3]
		_, rest, e := c.take(b)
		if e != api.OK || !bytes.Equal(rest, []byte{5, 6, 7}) {
			t.Errorf("%s: %x, %d", name, rest, e)
			continue
		}
		_, again, _ := c.take(b)
		grown := append(rest, 1, 2, 3)
		for i := range grown {
			grown[i], rest[i%3] = 0xEE, 0xEE
		}
		if !bytes.Equal(handed, before) {
			t.Errorf("%s: what was handed in has become %x", name, handed)
		}
		if !bytes.Equal(again, []byte{5, 6, 7}) {
			t.Errorf("%s: two answers share memory", name)
		}
		handed[len(c.row)] = 0xDD
		if again[0] != 5 {
			t.Errorf("%s: what was answered changes with what was handed in", name)
		}
	}
}

func TestP14SpareRoom(t *testing.T) {
	for name, c := range takers() {
		n, rest, e := c.take(c.row[:1])
		wantError(t, name+" with a byte in the spare room", n, rest, e, api.ErrTrunc)
		n, rest, e = c.take(c.row[:0])
		wantError(t, name+" with all in the spare room", n, rest, e, api.ErrTrunc)
	}
}

func TestP14NewMemory(t *testing.T) {
	for name, write := range map[string]func() []byte{
		"U":   func() []byte { b, _ := U(api.MaxNumber); return b },
		"S":   func() []byte { return S(math.MinInt64) },
		"Big": func() []byte { b, _ := Big(-2, 8); return b },
	} {
		first := write()
		kept := bytes.Clone(first)
		second := write()
		for i := range second {
			second[i] ^= 0xFF
		}
		if !bytes.Equal(first, kept) || !bytes.Equal(write(), kept) {
			t.Errorf("%s: two answers share memory", name)
		}
	}
}

func TestP15WrittenIsRead(t *testing.T) {
	for _, n := range ends() {
		wantTaken(t, "TakeS", TakeS, S(n), n)
		if b, e := U(n); e == api.OK {
			wantTaken(t, "TakeU", TakeU, b, n)
		} else if n >= 0 && n <= api.MaxNumber {
			t.Errorf("U(%d): %d", n, e)
		}
		for size := 1; size <= 8; size++ {
			b, e := Big(n, size)
			if e != api.OK {
				continue
			}
			if n >= 0 && size <= 7 {
				wantTaken(t, "TakeBig", takeBigOf(size), b, n)
			}
			if n < 0 || n < 1<<(8*size-1) || size == 8 {
				wantTaken(t, "TakeBigS", takeBigSOf(size), b, n)
			}
		}
	}
}

// shortest tells of a row, by the words of the document, its number and whether no row of fewer bytes has it.
func shortest(row []byte, signed bool) (*big.Int, bool) {
	n := worthOf(row, signed)
	for count := 1; count < len(row); count++ {
		cut := bytes.Clone(row[:count])
		cut[count-1] &= 0x7F
		if worthOf(cut, signed).Cmp(n) == 0 {
			return n, false
		}
	}
	return n, true
}

func worthOf(row []byte, signed bool) *big.Int {
	n, power := new(big.Int), big.NewInt(1)
	for _, c := range row {
		n.Add(n, new(big.Int).Mul(big.NewInt(int64(c&0x7F)), power))
		power.Lsh(power, 7)
	}
	if signed && row[len(row)-1]&0x40 != 0 {
		n.Sub(n, power)
	}
	return n
}

// wantRead holds both short ways against the document's words, for bytes of any kind.
func wantRead(t *testing.T, b []byte) {
	t.Helper()
	for _, c := range []struct {
		name   string
		take   taker
		write  func(n int) []byte
		most   int
		signed bool
	}{
		{"TakeU", TakeU, func(n int) []byte { b, _ := U(n); return b }, 8, false},
		{"TakeS", TakeS, S, 10, true},
	} {
		n, rest, e := c.take(b)
		last := slices.IndexFunc(b, func(c byte) bool { return c < 0x80 })
		if last < 0 && len(b) < c.most {
			wantError(t, c.name, n, rest, e, api.ErrTrunc)
			continue
		}
		if last < 0 || last >= c.most {
			wantError(t, c.name, n, rest, e, api.ErrSyntax)
			continue
		}
		want, ok := shortest(b[:last+1], c.signed)
		if !ok || !want.IsInt64() || !c.signed && want.Int64() > api.MaxNumber {
			wantError(t, c.name, n, rest, e, api.ErrSyntax)
			continue
		}
		if e != api.OK || int64(n) != want.Int64() || !bytes.Equal(rest, b[last+1:]) {
			t.Fatalf("%s(%x): %d, %x, %d; want %d", c.name, b, n, rest, e, want)
		}
		if !bytes.Equal(c.write(n), b[:last+1]) {
			t.Fatalf("%s(%x): %d, which is written %x", c.name, b, n, c.write(n))
		}
	}
}

func TestP15ReadIsWritten(t *testing.T) {
	telling := []byte{0, 1, 0x0F, 0x10, 0x3F, 0x40, 0x7E, 0x7F, 0x80, 0x81, 0xBF, 0xC0, 0xFF}
	wantRead(t, nil)
	for a := range 256 {
		wantRead(t, []byte{byte(a)})
		for b := range 256 {
			wantRead(t, []byte{byte(a), byte(b)})
			for _, c := range telling {
				wantRead(t, []byte{byte(a), byte(b), c})
			}
		}
	}
	for count := range 11 {
		for _, fill := range []byte{0x80, 0x81, 0xBF, 0xC0, 0xFF} {
			for _, a := range telling {
				for _, b := range telling {
					for _, c := range telling {
						wantRead(t, repeat(fill, count, a, b, c))
					}
				}
			}
		}
	}
}

func TestP16CutAndBeginnings(t *testing.T) {
	var us, ss [][]byte
	for _, n := range ends() {
		for _, c := range []struct {
			name string
			take taker
			row  []byte
		}{
			{"TakeS", TakeS, S(n)},
			{"TakeU", TakeU, func() []byte { b, _ := U(n); return b }()},
		} {
			for count := range c.row {
				n, rest, e := c.take(c.row[:count])
				wantError(t, c.name+" of what is cut", n, rest, e, api.ErrTrunc)
			}
		}
		ss = append(ss, S(n))
		if b, e := U(n); e == api.OK {
			us = append(us, b)
		}
	}
	for _, rows := range [][][]byte{us, ss} {
		slices.SortFunc(rows, bytes.Compare)
		rows = slices.CompactFunc(rows, bytes.Equal)
		if len(rows) < 150 {
			t.Errorf("too few rows: %d", len(rows))
		}
		for i := 1; i < len(rows); i++ {
			if bytes.HasPrefix(rows[i], rows[i-1]) {
				t.Errorf("%x is the beginning of %x", rows[i-1], rows[i])
			}
		}
	}
}

func TestP17Order(t *testing.T) {
	l := slices.DeleteFunc(ends(), func(n int) bool { return n < 0 })
	slices.Sort(l)
	l = slices.Compact(l)
	for size := 1; size <= 8; size++ {
		var before []byte
		count := 0
		for _, n := range l {
			b, e := Big(n, size)
			if e != api.OK {
				break
			}
			if count > 0 && bytes.Compare(before, b) >= 0 {
				t.Errorf("%d in %d bytes: %x stands not behind %x", n, size, b, before)
			}
			before = b
			count++
		}
		if want := 8 * size; count < want {
			t.Errorf("only %d numbers in %d bytes", count, size)
		}
	}
}

package adler

import (
	"bytes"
	"math/big"
	"slices"
	"testing"
)

// oneByOne is what comes of going on from a sum, by the document's words: each byte is taken in alone, and the rests are taken behind it.
func oneByOne(sum uint32, b []byte) uint32 {
	low, high := uint64(sum)%65536%65521, uint64(sum)/65536%65521
	for _, c := range b {
		low = (low + uint64(c)) % 65521
		high = (high + low) % 65521
	}
	return uint32(high*65536 + low)
}

// rest is the rest of a number that may be long, when divided by 65521.
func rest(n *big.Int) uint32 {
	return uint32(new(big.Int).Mod(n, big.NewInt(65521)).Uint64())
}

// reckoned is the sum of bytes by P3.4: each byte as many times as there are bytes from it on, nothing divided but at the end.
func reckoned(b []byte) uint32 {
	low, high := big.NewInt(1), big.NewInt(int64(len(b)))
	for i, c := range b {
		low.Add(low, big.NewInt(int64(c)))
		high.Add(high, big.NewInt(int64(c)*int64(len(b)-i)))
	}
	return rest(high)<<16 | rest(low)
}

func both(high, low uint32) uint32 {
	return high<<16 | low
}

// mixed are so many bytes, of all kinds.
func mixed(count int) []byte {
	b := make([]byte, count)
	at := uint32(count)
	for i := range b {
		at = at*1664525 + 1013904223
		b[i] = byte(at >> 24)
	}
	return b
}

// rows are lists of bytes, short and long, of which the halves pass 65521 never, once, and again and again.
func rows() [][]byte {
	var l [][]byte
	for _, count := range []int{0, 1, 2, 3, 15, 16, 256, 257, 258, 5551, 5552, 5553, 5554, 11104, 11105, 65520, 65521, 65522, 100003} {
		l = append(l, mixed(count), make([]byte, count), bytes.Repeat([]byte{0xFF}, count), bytes.Repeat([]byte{1}, count))
	}
	return l
}

// starts are sums to go on from: such as are sums, and such as are none.
func starts() []uint32 {
	var l []uint32
	halves := []uint32{0, 1, 14, 255, 0x7FFF, 0x8000, 65519, 65520, 65521, 65522, 0xFFFE, 0xFFFF}
	for _, high := range halves {
		for _, low := range halves {
			l = append(l, both(high, low))
		}
	}
	return l
}

func wantSum(t *testing.T, what string, got, want uint32) {
	t.Helper()
	if got != want {
		t.Errorf("%s: %X; want %X", what, got, want)
	}
	if got>>16 >= 65521 || got&0xFFFF >= 65521 {
		t.Errorf("%s: %X has a half that is not below 65521", what, got)
	}
}

func TestP31Examples(t *testing.T) {
	for _, c := range []struct {
		s    string
		want uint32
	}{
		{"", 1}, {"a", 0x620062}, {"abc", 0x24D0127}, {"Wikipedia", 0x11E60398},
		{"\x00", 0x10001}, {"\x01", 0x20002}, {"\x00\x00", 0x20001}, {"\xFF", 0x1000100}, {"\xFF\x00", 0x2000100}, {"\x00\xFF", 0x1010100},
	} {
		wantSum(t, c.s, Of([]byte(c.s)), c.want)
		wantSum(t, c.s+" gone on to", On(1, []byte(c.s)), c.want)
	}
	wantSum(t, "Wiki, pedia", On(Of([]byte("Wiki")), []byte("pedia")), 0x11E60398)
}

func TestP31NoByte(t *testing.T) {
	for _, b := range [][]byte{nil, {}, mixed(9)[4:4]} {
		wantSum(t, "no byte", Of(b), 1)
		for _, sum := range starts() {
			wantSum(t, "no byte to go on with", On(sum, b), both(sum>>16%65521, sum&0xFFFF%65521))
		}
	}
}

func TestP31Long(t *testing.T) {
	for _, b := range rows() {
		wantSum(t, "in one piece", Of(b), oneByOne(1, b))
		for _, size := range []int{1, 7, 4096, 5552, 5553} {
			sum := uint32(1)
			for piece := range slices.Chunk(b, size) {
				sum = On(sum, piece)
			}
			wantSum(t, "in several pieces", sum, oneByOne(1, b))
		}
	}
	wantSum(t, "20000 bytes FF", Of(bytes.Repeat([]byte{0xFF}, 20000)), 0x9F51D664)
}

// From the greatest halves on, each count of bytes FF up to some thousands: a half that has no room is lost just where the bytes are many enough.
func TestP31EachCount(t *testing.T) {
	b := bytes.Repeat([]byte{0xFF}, 12000)
	for _, sum := range []uint32{1, both(65520, 65520), 0xFFFFFFFF} {
		want := oneByOne(sum, nil)
		for count := range b {
			if got := On(sum, b[:count]); got != want {
				t.Fatalf("%d bytes FF from %X: %X; want %X", count, sum, got, want)
			}
			want = oneByOne(want, b[count:count+1])
		}
	}
}

func TestP31Starts(t *testing.T) {
	l := [][]byte{{0}, {1}, {14}, {15}, {0xFF}, {0, 0, 0}, {1, 0, 0xFF}, mixed(300), mixed(6000)}
	for _, sum := range starts() {
		for _, b := range l {
			wantSum(t, "going on", On(sum, b), oneByOne(sum, b))
			wantSum(t, "going on from the rests", On(oneByOne(sum, nil), b), oneByOne(sum, b))
		}
	}
	for _, c := range []struct {
		sum, want uint32
		b         []byte
	}{
		{both(65520, 65520), both(65520, 65520), nil}, {both(65520, 65520), both(65519, 65520), []byte{0}}, {both(65520, 65520), both(65520, 0), []byte{1}}, {both(0, 65520), both(1, 1), []byte{2}},
		{both(65521, 65521), 0, nil}, {both(65521, 65521), both(5, 5), []byte{5}}, {both(65521, 0), 0, nil}, {65521, 0, nil},
		{0xFFFFFFFF, both(14, 14), nil}, {0xFFFFFFFF, both(28, 14), []byte{0}}, {0xFFFFFFFF, both(283, 269), []byte{0xFF}}, {0xFFFF0000, both(14, 0), nil}, {0xFFFF, 14, nil},
		{0, 0, nil}, {0, 0, []byte{0, 0}}, {0, both(1, 1), []byte{0, 1}},
	} {
		wantSum(t, "going on", On(c.sum, c.b), c.want)
	}
}

func TestP31Untouched(t *testing.T) {
	handed := mixed(12000)
	before := bytes.Clone(handed)
	for _, count := range []int{0, 1, 5552, 5553, 11000} {
		for _, b := range [][]byte{handed[:count], handed[:count:count]} {
			first, second := Of(b), On(7, b)
			if !bytes.Equal(handed, before) {
				t.Fatalf("what was handed in, or its spare room, has changed: %d bytes", count)
			}
			wantSum(t, "the same again", Of(b), first)
			wantSum(t, "the same again", On(7, b), second)
		}
		// What stands in the spare room is not summed up.
		wantSum(t, "with spare room", Of(handed[:count]), Of(bytes.Clone(handed[:count])))
	}
}

func TestP32Pieces(t *testing.T) {
	for _, b := range [][]byte{[]byte("Wikipedia"), mixed(700), bytes.Repeat([]byte{0xFF}, 6000), mixed(5560)} {
		want := Of(b)
		for at := range len(b) + 1 {
			if got := On(Of(b[:at]), b[at:]); got != want {
				t.Fatalf("%d bytes, cut at %d: %X; want %X", len(b), at, got, want)
			}
		}
	}
	b := mixed(60)
	for _, sum := range starts() {
		want := On(sum, b)
		for at := range len(b) + 1 {
			wantSum(t, "cut, from a sum on", On(On(sum, b[:at]), b[at:]), want)
		}
	}
}

func TestP33AnotherByte(t *testing.T) {
	for _, b := range [][]byte{{0}, {0xFF}, []byte("Wikipedia"), make([]byte, 40), bytes.Repeat([]byte{0xFF}, 300)} {
		want := Of(b)
		for i := range b {
			other := bytes.Clone(b)
			for c := range 256 {
				other[i] = byte(c)
				if same := byte(c) == b[i]; same != (Of(other) == want) {
					t.Fatalf("byte %d of %x as %x: %X beside %X", i, b, c, Of(other), want)
				}
			}
		}
	}
	b := mixed(12000)
	for _, i := range []int{0, 1, 5551, 5552, 5553, 11103, 11104, 11999} {
		other := bytes.Clone(b)
		for c := range 256 {
			other[i] = byte(c)
			if same := byte(c) == b[i]; same != (Of(other) == Of(b)) {
				t.Errorf("byte %d of many, as %x: %X beside %X", i, c, Of(other), Of(b))
			}
		}
	}
}

// swapped are bytes of which two have changed places.
func swapped(b []byte, i, j int) []byte {
	other := bytes.Clone(b)
	other[i], other[j] = b[j], b[i]
	return other
}

func TestP33Places(t *testing.T) {
	for _, b := range [][]byte{[]byte("Wikipedia"), {0, 0xFF}, {0xFF, 0xFE, 0xFF, 0xFE}, mixed(150)} {
		for i := range b {
			for j := range b[:i] {
				if other := swapped(b, i, j); bytes.Equal(b, other) != (Of(other) == Of(b)) {
					t.Fatalf("bytes %d and %d of %x: %X beside %X", j, i, b, Of(other), Of(b))
				}
			}
		}
	}
}

func TestP33FarPlaces(t *testing.T) {
	for _, two := range [][2]byte{{0, 1}, {1, 0}, {0, 0xFF}, {0xFF, 0}, {0x41, 0x42}} {
		b := mixed(70000)
		for _, far := range []int{1, 2, 255, 256, 257, 5551, 5552, 5553, 32760, 32761, 65519, 65520} {
			for _, at := range []int{0, 1, 4000} {
				b[at], b[at+far] = two[0], two[1]
				if Of(swapped(b, at, at+far)) == Of(b) {
					t.Errorf("%x at %d and %d places from there: the sum is the same", two, at, far)
				}
			}
		}
		// The first places that are too far: the bytes count alike there.
		b[0], b[65521] = two[0], two[1]
		wantSum(t, "65521 places apart", Of(swapped(b, 0, 65521)), Of(b))
	}
}

func TestP34Halves(t *testing.T) {
	for _, b := range rows() {
		wantSum(t, "reckoned in another way", Of(b), reckoned(b))
	}
	for count := range 1000 {
		b := mixed(count)
		wantSum(t, "reckoned in another way", Of(b), reckoned(b))
	}
	for _, c := range []struct {
		count int
		want  uint32
	}{
		{65520, both(65520, 1)}, {65521, 1}, {65522, both(1, 1)}, {131043, both(1, 1)},
	} {
		wantSum(t, "bytes 0", Of(make([]byte, c.count)), c.want)
	}
}

package ops_test

import (
	"bytes"
	"fmt"
	"math"
	"reflect"
	"slices"
	"strings"
	"testing"
	"unsafe"

	"warpbeam/api"
	"warpbeam/ops"
)

// allNames are the instructions' names by their numbers, as the document has them.
func allNames() []string {
	return strings.Split("nop, iconst, lconst, ldc, null, iload, lload, aload, istore, lstore, astore, iinc, pop, pop2, dup, dupx1, dup2, swap, iadd, isub, imul, idiv, irem, iand, ior, ixor, ishl, ishr, iushr, ineg, ladd, lsub, lmul, ldiv, lrem, land, lor, lxor, lneg, lcmp, i2l, l2i, ifeq, ifne, iflt, ifge, ifgt, ifle, icmpeq, icmpne, icmplt, icmpge, icmpgt, icmple, acmpeq, acmpne, ifnull, ifnonnull, goto, tswitch, lswitch, getstatic, putstatic, getfield, putfield, new, newints, newlongs, newrefs, length, iaget, laget, aaget, iaput, laput, aaput, cast, is, throw, callstatic, callvirtual, callinterface, callspecial, ireturn, lreturn, areturn, return, iout, lout, iin", ", ")
}

// allOps are the constants by their numbers.
func allOps() []int {
	return []int{
		ops.OpNop, ops.OpIconst, ops.OpLconst, ops.OpLdc, ops.OpNull, ops.OpIload, ops.OpLload, ops.OpAload, ops.OpIstore, ops.OpLstore, ops.OpAstore, ops.OpIinc, ops.OpPop, ops.OpPop2, ops.OpDup, ops.OpDupx1, ops.OpDup2, ops.OpSwap,
		ops.OpIadd, ops.OpIsub, ops.OpImul, ops.OpIdiv, ops.OpIrem, ops.OpIand, ops.OpIor, ops.OpIxor, ops.OpIshl, ops.OpIshr, ops.OpIushr, ops.OpIneg, ops.OpLadd, ops.OpLsub, ops.OpLmul, ops.OpLdiv, ops.OpLrem, ops.OpLand, ops.OpLor, ops.OpLxor, ops.OpLneg, ops.OpLcmp, ops.OpI2l, ops.OpL2i,
		ops.OpIfeq, ops.OpIfne, ops.OpIflt, ops.OpIfge, ops.OpIfgt, ops.OpIfle, ops.OpIcmpeq, ops.OpIcmpne, ops.OpIcmplt, ops.OpIcmpge, ops.OpIcmpgt, ops.OpIcmple, ops.OpAcmpeq, ops.OpAcmpne, ops.OpIfnull, ops.OpIfnonnull, ops.OpGoto, ops.OpTswitch, ops.OpLswitch,
		ops.OpGetstatic, ops.OpPutstatic, ops.OpGetfield, ops.OpPutfield, ops.OpNew, ops.OpNewints, ops.OpNewlongs, ops.OpNewrefs, ops.OpLength, ops.OpIaget, ops.OpLaget, ops.OpAaget, ops.OpIaput, ops.OpLaput, ops.OpAaput, ops.OpCast, ops.OpIs, ops.OpThrow,
		ops.OpCallstatic, ops.OpCallvirtual, ops.OpCallinterface, ops.OpCallspecial, ops.OpIreturn, ops.OpLreturn, ops.OpAreturn, ops.OpReturn, ops.OpIout, ops.OpLout, ops.OpIin,
	}
}

// noOps are numbers that are no instruction's, such as are one's only if they are cut to some bytes, too.
func noOps() []int {
	return []int{-1, -2, -90, -128, -256, -166, 90, 91, 100, 127, 128, 255, 256, 257, 314, 315, 345, 1 << 16, 1<<16 + 5, 1 << 31, 1 << 32, 1<<32 + 58, -1 << 32, math.MinInt64, math.MinInt64 + 5, math.MaxInt64}
}

// among tells whether a name is one of a list's, with blanks between.
func among(list, name string) bool {
	return slices.Contains(strings.Fields(list), name)
}

// shapes are the shapes of all instructions.
var shapes = func() [90]int {
	var l [90]int
	for op, name := range allNames() {
		l[op] = shapeNamed(op, name)
	}
	return l
}()

// shapeOf is the shape that is meant for an instruction, or for what is none.
func shapeOf(op int) int {
	if op < 0 || op > 89 {
		return 0
	}
	return shapes[op]
}

// shapeNamed is an instruction's shape, by the chapter's table.
func shapeNamed(op int, name string) int {
	switch {
	case among("iload lload aload istore lstore astore", name):
		return 1
	case among("iconst lconst", name):
		return 2
	case among("ldc getstatic putstatic getfield putfield new newrefs cast is callstatic callvirtual callinterface callspecial", name):
		return 3
	case op >= 42 && op <= 57 || name == "goto":
		return 4
	case name == "iinc":
		return 5
	case name == "tswitch":
		return 6
	case name == "lswitch":
		return 7
	}
	return 0
}

// within tells whether a number is from least up to most.
func within(n, least, most int) bool {
	return n >= least && n <= most
}

// may tells whether an instruction may be, by the chapter's words.
func may(x api.Ins) bool {
	if !within(x.At, 0, 8191) || !within(x.Op, 0, 89) {
		return false
	}
	for _, to := range x.To {
		if !within(to, 0, 8191) {
			return false
		}
	}
	noN, noM, noTo, noKeys := x.N == 0, x.M == 0, len(x.To) == 0, len(x.Keys) == 0
	switch shapeOf(x.Op) {
	case 1:
		return within(x.N, 0, 255) && noM && noTo && noKeys
	case 2:
		return within(x.N, -32768, 32767) && noM && noTo && noKeys
	case 3:
		return within(x.N, 0, 65535) && noM && noTo && noKeys
	case 4:
		return noN && noM && len(x.To) == 1 && noKeys
	case 5:
		return within(x.N, 0, 255) && within(x.M, -128, 127) && noTo && noKeys
	case 6:
		others := len(x.To) - 1
		return within(others, 1, 1000) && within(x.N, -1<<31, 1<<31-others) && noM && noKeys
	case 7:
		others := len(x.To) - 1
		return noN && noM && within(others, 0, 1000) && len(x.Keys) == others && risingInts(x.Keys)
	}
	return noN && noM && noTo && noKeys
}

// risingInts tells whether all keys are ints, each one greater than the one ahead.
func risingInts(l []int) bool {
	for i, key := range l {
		if !within(key, -1<<31, 1<<31-1) || i > 0 && l[i-1] >= key {
			return false
		}
	}
	return true
}

// two, four are a number in so many bytes, the highest one first.
func two(n int) []byte  { return []byte{byte(n >> 8), byte(n)} }
func four(n int) []byte { return []byte{byte(n >> 24), byte(n >> 16), byte(n >> 8), byte(n)} }

// bytesOf are the bytes of an instruction, by the chapter's table; of one that may not be they tell as much of it as they can.
func bytesOf(x api.Ins) []byte {
	b := []byte{byte(x.Op)}
	far := func(i int) []byte { return two(x.To[i] - x.At) }
	switch shapeOf(x.Op) {
	case 1:
		return append(b, byte(x.N))
	case 2, 3:
		return append(b, two(x.N)...)
	case 4:
		return append(b, far(0)...)
	case 5:
		return append(b, byte(x.N), byte(x.M))
	case 6:
		b = slices.Concat(b, far(0), four(x.N), two(len(x.To)-1))
		for i := 1; i < len(x.To); i++ {
			b = append(b, far(i)...)
		}
	case 7:
		b = slices.Concat(b, far(0), two(len(x.To)-1))
		for i := 1; i < len(x.To); i++ {
			b = append(append(b, four(x.Keys[i-1])...), far(i)...)
		}
	}
	return b
}

// word is the number of some bytes, the highest one first: the highest bit is its sign.
func word(b []byte) int {
	n := 0
	for _, c := range b {
		n = n*256 + int(c)
	}
	if b[0] >= 128 {
		n -= 1 << (8 * len(b))
	}
	return n
}

// size is how many bytes the instruction has that begins b, by the chapter's table: more than there are, if b ends ahead of its end.
func size(b []byte) int {
	count := func(at int) int {
		if len(b) < at+2 {
			return 0
		}
		return int(b[at])*256 + int(b[at+1])
	}
	switch shapeOf(int(b[0])) {
	case 1:
		return 2
	case 2, 3, 4, 5:
		return 3
	case 6:
		return 9 + 2*count(7)
	case 7:
		return 5 + 6*count(3)
	}
	return 1
}

// told is the instruction that bytes tell that are not too few, whether it may be or not.
func told(b []byte, at int) api.Ins {
	x := api.Ins{At: at, Op: int(b[0])}
	place := func(i int) { x.To = append(x.To, at+word(b[i:i+2])) }
	switch shapeOf(x.Op) {
	case 1:
		x.N = int(b[1])
	case 2:
		x.N = word(b[1:3])
	case 3:
		x.N = int(b[1])*256 + int(b[2])
	case 4:
		place(1)
	case 5:
		x.N, x.M = int(b[1]), word(b[2:3])
	case 6:
		place(1)
		x.N = word(b[3:7])
		for i := 9; i < size(b); i += 2 {
			place(i)
		}
	case 7:
		place(1)
		for i := 5; i < size(b); i += 6 {
			x.Keys = append(x.Keys, word(b[i:i+4]))
			place(i + 4)
		}
	}
	return x
}

// decoded is what Decode answers, by the document's words.
func decoded(b []byte, at int) (api.Ins, int, api.Errno) {
	switch {
	case at < 0 || at >= len(b) || at > 8191:
		return api.Ins{}, 0, api.ErrRange
	case b[at] > 89:
		return api.Ins{}, 0, api.ErrOp
	case at+size(b[at:]) > len(b):
		return api.Ins{}, 0, api.ErrTrunc
	}
	x := told(b[at:], at)
	if !may(x) {
		return api.Ins{}, 0, api.ErrSyntax
	}
	return x, at + size(b[at:]), api.OK
}

// show is as much of an instruction, of bytes as can be looked at.
func show(x any) string {
	return fmt.Sprintf("%.200s", fmt.Sprintf("%v", x))
}

// same tells whether two instructions are the same: a list without elements may be nil or not.
func same(x, y api.Ins) bool {
	return x.At == y.At && x.Op == y.Op && x.N == y.N && x.M == y.M && slices.Equal(x.To, y.To) && slices.Equal(x.Keys, y.Keys)
}

// wantDecoded holds Decode against what the document's words make of it, and answers how it ended.
func wantDecoded(t *testing.T, b []byte, at int) api.Errno {
	t.Helper()
	want, wantNext, wantE := decoded(b, at)
	x, next, e := ops.Decode(b, at)
	if !same(x, want) || next != wantNext || e != wantE {
		t.Fatalf("Decode(%s, %d): %s, %d, %d; want %s, %d, %d", show(b), at, show(x), next, e, show(want), wantNext, wantE)
	}
	if e != api.OK && (x.To != nil && len(x.To) > 0 || len(x.Keys) > 0) {
		t.Fatalf("Decode(%s, %d): lists beside an error", show(b), at)
	}
	return e
}

// wantError holds Decode against one error.
func wantError(t *testing.T, b []byte, at int, want api.Errno) {
	t.Helper()
	if x, next, e := ops.Decode(b, at); e != want || next != 0 || !same(x, api.Ins{}) {
		t.Errorf("Decode(%s, %d): %s, %d, %d; want error %d and nothing beside it", show(b), at, show(x), next, e, want)
	}
	wantDecoded(t, b, at)
}

// wantEncoded holds Encode against what the document's words make of it, and answers whether the instruction may be.
func wantEncoded(t *testing.T, x api.Ins) bool {
	t.Helper()
	var want []byte
	wantE := api.ErrArg
	if may(x) {
		want, wantE = bytesOf(x), api.OK
	}
	if b, e := ops.Encode(x); e != wantE || !bytes.Equal(b, want) {
		t.Fatalf("Encode(%s): %s, %d; want %s, %d", show(x), show(b), e, show(want), wantE)
	}
	return wantE == api.OK
}

// row is places that rise by one, from a first one on.
func row(first, count int) []int {
	l := make([]int, count)
	for i := range l {
		l[i] = first + i
	}
	return l
}

// samples are instructions that may be: each of the 90, each shape's fields at both ends, from some places.
func samples() []api.Ins {
	var l []api.Ins
	for op := range 90 {
		for _, at := range []int{0, 1, 700, 8191} {
			for _, x := range fields(shapeOf(op)) {
				x.Op, x.At = op, at
				l = append(l, x)
			}
		}
	}
	return l
}

// fields are instructions of a shape that may be, but for their numbers.
func fields(shape int) []api.Ins {
	switch shape {
	case 1:
		return []api.Ins{{}, {N: 1}, {N: 127}, {N: 128}, {N: 254}, {N: 255}}
	case 2:
		return []api.Ins{{}, {N: 1}, {N: -1}, {N: 255}, {N: 256}, {N: -256}, {N: 32767}, {N: -32768}}
	case 3:
		return []api.Ins{{}, {N: 1}, {N: 255}, {N: 256}, {N: 4095}, {N: 32768}, {N: 65535}}
	case 4:
		return []api.Ins{{To: []int{0}}, {To: []int{1}}, {To: []int{699}}, {To: []int{8191}}}
	case 5:
		return []api.Ins{{}, {N: 255, M: 127}, {M: -128}, {N: 128, M: -1}, {N: 1, M: 1}}
	case 6:
		return []api.Ins{
			{To: []int{0, 0}}, {N: -1 << 31, To: []int{8191, 0}}, {N: 1<<31 - 1, To: []int{0, 8191}}, {N: 1<<31 - 2, To: []int{5, 6, 7}}, {N: -1, To: []int{1, 2, 3, 2, 1}},
			{N: 1<<31 - 1000, To: row(3, 1001)}, {N: -1 << 31, To: row(0, 1001)}, {N: -500, To: row(7191, 1001)}, {N: 1<<31 - 256, To: row(9, 257)},
		}
	case 7:
		return []api.Ins{
			{To: []int{0}}, {To: []int{8191}, Keys: []int{}}, {To: []int{0, 8191}, Keys: []int{-1 << 31}}, {To: []int{8191, 0}, Keys: []int{1<<31 - 1}}, {To: []int{4, 4, 4}, Keys: []int{-1 << 31, 1<<31 - 1}}, {To: []int{5, 3, 4, 3}, Keys: []int{-2, -1, 0}},
			{To: row(0, 1001), Keys: row(-1<<31, 1000)}, {To: row(7191, 1001), Keys: row(1<<31-1000, 1000)}, {To: row(2, 257), Keys: row(-128, 256)},
		}
	}
	return []api.Ins{{}}
}

func TestP61Examples(t *testing.T) {
	for _, c := range []struct {
		b    []byte
		at   int
		want api.Ins
		next int
	}{
		{[]byte{5, 3}, 0, api.Ins{Op: ops.OpIload, N: 3}, 2},
		{[]byte{0, 0x3A, 0xFF, 0xFF}, 1, api.Ins{At: 1, Op: ops.OpGoto, To: []int{0}}, 4},
		{[]byte{0x3C, 0, 9, 0, 1, 0xFF, 0xFF, 0xFF, 0xFF, 0, 11}, 0, api.Ins{Op: ops.OpLswitch, To: []int{9, 11}, Keys: []int{-1}}, 11},
		{[]byte{0x3B, 0, 9, 0xFF, 0xFF, 0xFF, 0xFE, 0, 3, 0, 1, 0, 2, 0, 3, 0x56}, 0, api.Ins{Op: ops.OpTswitch, N: -2, To: []int{9, 1, 2, 3}}, 15},
	} {
		if x, next, e := ops.Decode(c.b, c.at); e != api.OK || next != c.next || !same(x, c.want) {
			t.Errorf("Decode(%x, %d): %v, %d, %d; want %v, %d", c.b, c.at, x, next, e, c.want, c.next)
		}
		wantDecoded(t, c.b, c.at)
	}
	wantError(t, []byte{0x3A, 0}, 0, api.ErrTrunc)
	wantError(t, []byte{0x5A}, 0, api.ErrOp)
	wantError(t, []byte{0x3A, 0xFF, 0xFF}, 0, api.ErrSyntax)
	wantError(t, nil, 0, api.ErrRange)
	wantError(t, []byte{}, 0, api.ErrRange)
}

func TestP61EachCut(t *testing.T) {
	for _, x := range samples() {
		alone := bytesOf(x)
		b := append(make([]byte, x.At), alone...)
		if e := wantDecoded(t, b, x.At); e != api.OK {
			t.Fatalf("Decode of %s: %d", show(x), e)
		}
		for _, behind := range [][]byte{{0}, {0xFF, 0xFF}, alone} {
			wantDecoded(t, slices.Concat(b, behind), x.At)
		}
		for count := 1; count < min(len(alone), 40); count++ {
			wantError(t, b[:x.At+count], x.At, api.ErrTrunc)
		}
		if len(alone) > 40 {
			wantError(t, b[:len(b)-1], x.At, api.ErrTrunc)
		}
	}
}

func TestP61LongCut(t *testing.T) {
	for _, x := range []api.Ins{{Op: ops.OpTswitch, N: -9, To: row(7, 301)}, {Op: ops.OpLswitch, To: row(7, 301), Keys: row(-9, 300)}} {
		b := bytesOf(x)
		for count := 1; count < len(b); count++ {
			wantError(t, b[:count], 0, api.ErrTrunc)
		}
		wantDecoded(t, b, 0)
	}
}

func TestP61CutWithRoom(t *testing.T) {
	// What stands in the spare room behind the bytes is none of them.
	b := []byte{0x3C, 0, 9, 0, 1, 0xFF, 0xFF, 0xFF, 0xFF, 0, 11}
	for count := range b {
		want := api.ErrTrunc
		if count == 0 {
			want = api.ErrRange
		}
		wantError(t, b[:count], 0, want)
	}
}

func TestP61FirstByte(t *testing.T) {
	for c := range 256 {
		for _, behind := range [][]byte{nil, {0}, {1, 0}, bytes.Repeat([]byte{0}, 40), bytes.Repeat([]byte{0xFF}, 40), {0, 1, 0, 1, 0, 0, 0, 1, 0, 1, 0, 1}} {
			b := append([]byte{byte(c)}, behind...)
			e := wantDecoded(t, b, 0)
			if (c >= 90) != (e == api.ErrOp) {
				t.Errorf("Decode(%x, 0): %d", b, e)
			}
		}
	}
}

func TestP61Places(t *testing.T) {
	for _, length := range []int{0, 1, 2, 5, 8190, 8191, 8192, 8193, 9000, 70000} {
		b := make([]byte, length)
		for _, at := range []int{math.MinInt64, math.MinInt64 + 1, -1 << 32, -8192, -2, -1, 0, 1, 2, 4, 5, 8189, 8190, 8191, 8192, 8193, 8999, 9000, 69999, 70000, 1 << 16, 1 << 31, 1 << 32, math.MaxInt64} {
			e := wantDecoded(t, b, at)
			if inside := at >= 0 && at < length && at < 8192; inside != (e == api.OK) || !inside && e != api.ErrRange {
				t.Errorf("Decode of %d bytes at %d: %d", length, at, e)
			}
		}
	}
	// The last place of code has an instruction, however long it is; the next one has none.
	b := append(make([]byte, 8191), 0x3B, 0, 0, 0, 0, 0, 0, 0, 1, 0xFF, 0xFF, 0)
	if x, next, e := ops.Decode(b, 8191); e != api.OK || next != 8202 || !same(x, api.Ins{At: 8191, Op: 59, To: []int{8191, 8190}}) {
		t.Errorf("Decode at 8191: %v, %d, %d", x, next, e)
	}
	wantError(t, b, 8192, api.ErrRange)
}

func TestP61Jumps(t *testing.T) {
	for _, at := range []int{0, 1, 2, 4000, 8190, 8191} {
		for _, op := range []byte{0x2A, 0x39, 0x3A} {
			b := append(make([]byte, at), op, 0, 0)
			for far := range 65536 {
				copy(b[at+1:], two(far))
				to := at + word(two(far))
				e := wantDecoded(t, b, at)
				if within(to, 0, 8191) != (e == api.OK) || e != api.OK && e != api.ErrSyntax {
					t.Fatalf("a jump from %d to %d: %d", at, to, e)
				}
			}
		}
	}
}

func TestP61AllOfTwoBytes(t *testing.T) {
	for _, op := range []byte{1, 2, 3, 5, 10, 11, 61, 82} {
		for n := range 65536 {
			b := append([]byte{op}, two(n)...)
			if e := wantDecoded(t, b, 0); e != api.OK {
				t.Fatalf("Decode(%x, 0): %d", b, e)
			}
		}
	}
}

func TestP61Switches(t *testing.T) {
	table := func(def, first, others int) []byte {
		b := slices.Concat([]byte{59}, two(def), four(first), two(others))
		return append(b, make([]byte, 2*others)...)
	}
	keys := func(def int, l ...int) []byte {
		b := slices.Concat([]byte{60}, two(def), two(len(l)))
		for _, key := range l {
			b = append(append(b, four(key)...), 0, 0)
		}
		return b
	}
	for _, c := range []struct {
		b []byte
		e api.Errno
	}{
		{table(0, 0, 0), api.ErrSyntax}, {table(0, 0, 1), api.OK}, {table(0, 0, 999), api.OK}, {table(0, 0, 1000), api.OK}, {table(0, 0, 1001), api.ErrSyntax}, {table(0, 0, 32767), api.ErrSyntax}, {table(0, 0, 32768), api.ErrSyntax}, {table(0, 0, 65535), api.ErrSyntax},
		{table(-1, 0, 1), api.ErrSyntax}, {table(8191, 0, 1), api.OK}, {table(8192, 0, 1), api.ErrSyntax}, {table(-32768, 0, 1), api.ErrSyntax}, {table(32767, 0, 1), api.ErrSyntax},
		{table(0, 1<<31-1, 1), api.OK}, {table(0, 1<<31-1, 2), api.ErrSyntax}, {table(0, 1<<31-2, 2), api.OK}, {table(0, 1<<31-1000, 1000), api.OK}, {table(0, 1<<31-999, 1000), api.ErrSyntax}, {table(0, -1<<31, 1000), api.OK}, {table(0, -1<<31, 1), api.OK},
		{keys(0), api.OK}, {keys(-1), api.ErrSyntax}, {keys(8191), api.OK}, {keys(8192), api.ErrSyntax}, {keys(0, 0), api.OK}, {keys(0, -1<<31), api.OK}, {keys(0, 1<<31-1), api.OK}, {keys(0, -1<<31, 1<<31-1), api.OK}, {keys(0, 1<<31-1, -1<<31), api.ErrSyntax},
		{keys(0, 5, 5), api.ErrSyntax}, {keys(0, 5, 4), api.ErrSyntax}, {keys(0, 4, 5), api.OK}, {keys(0, -1, 0), api.OK}, {keys(0, 0, -1), api.ErrSyntax}, {keys(0, 1, 2, 3, 4, 4), api.ErrSyntax}, {keys(0, 1, 2, 0, 4, 5), api.ErrSyntax}, {keys(0, -1<<31, -1<<31), api.ErrSyntax}, {keys(0, 1<<31-1, 1<<31-1), api.ErrSyntax},
		{keys(0, row(-7, 999)...), api.OK}, {keys(0, row(-7, 1000)...), api.OK}, {keys(0, row(-7, 1001)...), api.ErrSyntax}, {keys(0, row(-7, 65535)...), api.ErrSyntax},
	} {
		if e := wantDecoded(t, c.b, 0); e != c.e {
			t.Errorf("Decode(%s, 0): %d; want %d", show(c.b), e, c.e)
		}
		// Bytes that are no instruction that may be, and fewer than they say, are too few first.
		wantError(t, c.b[:len(c.b)-1], 0, api.ErrTrunc)
	}
}

func TestP61SaysMore(t *testing.T) {
	for _, others := range []int{1, 2, 255, 256, 1000, 1001, 32767, 32768, 65535} {
		for behind := range 13 {
			rest := make([]byte, behind)
			for _, b := range [][]byte{slices.Concat([]byte{59, 0, 0, 0, 0, 0, 0}, two(others), rest), slices.Concat([]byte{60, 0, 0}, two(others), rest), slices.Concat([]byte{60, 0xFF, 0xFF}, two(others), rest)} {
				wantDecoded(t, b, 0)
				if others > 12 {
					wantError(t, b, 0, api.ErrTrunc)
				}
			}
		}
	}
}

func TestP61WhichFirst(t *testing.T) {
	wantError(t, []byte{0x5A}, 1, api.ErrRange)
	wantError(t, []byte{0x5A}, -1, api.ErrRange)
	wantError(t, append(make([]byte, 8192), 0x5A), 8192, api.ErrRange)
	wantError(t, append(make([]byte, 8192), 0x3A, 0), 8192, api.ErrRange)
	wantError(t, append(make([]byte, 8191), 0x5A), 8191, api.ErrOp)
	wantError(t, []byte{0x3A, 0xFF}, 0, api.ErrTrunc)
	wantError(t, []byte{60, 0xFF, 0xFF, 0}, 0, api.ErrTrunc)
	wantError(t, []byte{60, 0, 0, 0, 2, 0, 0, 0, 5, 0, 0, 0, 0, 0, 5, 0}, 0, api.ErrTrunc)
	wantError(t, []byte{59, 0xFF, 0xFF, 0x7F, 0xFF, 0xFF, 0xFF, 0, 2, 0, 0, 0}, 0, api.ErrTrunc)
}

func TestP61EachByte(t *testing.T) {
	var b []byte
	starts := map[int]api.Ins{}
	for _, x := range samples() {
		if x.At == 1 && len(x.To) < 20 && len(b) < 8000 {
			x.At = len(b)
			starts[x.At] = x
			b = append(b, bytesOf(x)...)
		}
	}
	for at := -3; at < len(b)+3; at++ {
		e := wantDecoded(t, b, at)
		if x, is := starts[at]; is && (e != api.OK || !same(told(b[at:], at), x)) {
			t.Errorf("at %d: %d; want %s", at, e, show(x))
		}
	}
	next, count := 0, 0
	for next < len(b) {
		x, behind, e := ops.Decode(b, next)
		if e != api.OK || !same(x, starts[next]) || behind <= next {
			t.Fatalf("Decode at %d: %s, %d, %d; want %s", next, show(x), behind, e, show(starts[next]))
		}
		next, count = behind, count+1
	}
	if count != len(starts) || next != len(b) {
		t.Errorf("%d instructions, up to %d; want %d, up to %d", count, next, len(starts), len(b))
	}
}

func TestP61Mixed(t *testing.T) {
	state := uint32(7)
	for range 60000 {
		b := make([]byte, 3+state>>28)
		for i := range b {
			state = state*1664525 + 1013904223
			b[i] = byte(state >> 24)
			if state>>20&7 > 2 {
				b[i] %= 8 // small numbers make instructions that may be
			}
		}
		if state>>10&3 > 0 {
			b[0] = 58 + byte(state>>12)%3
		}
		for at := range 3 {
			wantDecoded(t, b, at)
		}
	}
}

func TestP62Examples(t *testing.T) {
	for _, c := range []struct {
		x    api.Ins
		want []byte
	}{
		{api.Ins{}, []byte{0}}, {api.Ins{Op: ops.OpIload, N: 3}, []byte{5, 3}}, {api.Ins{At: 1, Op: ops.OpGoto, To: []int{0}}, []byte{0x3A, 0xFF, 0xFF}},
		{api.Ins{Op: ops.OpLswitch, To: []int{9, 11}, Keys: []int{-1}}, []byte{0x3C, 0, 9, 0, 1, 0xFF, 0xFF, 0xFF, 0xFF, 0, 11}},
		{api.Ins{At: 8191, Op: ops.OpGoto, To: []int{0}}, []byte{0x3A, 0xE0, 1}}, {api.Ins{Op: ops.OpGoto, To: []int{8191}}, []byte{0x3A, 0x1F, 0xFF}},
		{api.Ins{Op: ops.OpIinc, N: 255, M: -128}, []byte{11, 255, 128}}, {api.Ins{Op: ops.OpLconst, N: -32768}, []byte{2, 0x80, 0}}, {api.Ins{Op: ops.OpLdc, N: 65535}, []byte{3, 0xFF, 0xFF}},
		{api.Ins{At: 2, Op: ops.OpTswitch, N: -2, To: []int{9, 1, 2}}, []byte{59, 0, 7, 0xFF, 0xFF, 0xFF, 0xFE, 0, 2, 0xFF, 0xFF, 0, 0}},
	} {
		if b, e := ops.Encode(c.x); e != api.OK || !bytes.Equal(b, c.want) {
			t.Errorf("Encode(%v): %x, %d; want %x", c.x, b, e, c.want)
		}
	}
}

func TestP62Samples(t *testing.T) {
	for _, x := range samples() {
		if !wantEncoded(t, x) {
			t.Errorf("Encode(%s): it may be", show(x))
		}
	}
}

// edges are numbers at the ends of what fields may be, and just past them.
func edges() []int {
	return []int{0, 1, -1, 2, 127, 128, -128, -129, 255, 256, 257, 32767, 32768, -32768, -32769, 65535, 65536, 1<<31 - 2, 1<<31 - 1, 1 << 31, -1 << 31, -1<<31 - 1, 1 << 32, 1<<32 + 1, -1 << 32, 1 << 62, math.MaxInt64, math.MaxInt64 - 1, math.MinInt64, math.MinInt64 + 1}
}

func TestP62Edges(t *testing.T) {
	tos := [][]int{nil, {}, {0}, {8191}, {8192}, {-1}, {math.MinInt64}, {math.MaxInt64}, {0, 0}, {0, 8191}, {0, 8192}, {0, -1}, {8192, 0}, {1, 2, 3}, {1, 2, 1 << 32}, {0, 1, 2, math.MinInt64}}
	keys := [][]int{nil, {}, {0}, {1}, {-1 << 31}, {-1<<31 - 1}, {1<<31 - 1}, {1 << 31}, {1 << 32}, {0, 1}, {0, 0}, {1, 0}, {-1 << 31, 1<<31 - 1}, {math.MinInt64, 0}, {0, math.MaxInt64}, {1, 2, 3}, {1, 3, 2}}
	good := 0
	for _, op := range append(allOps(), noOps()...) {
		for _, n := range edges() {
			for _, m := range []int{0, 1, -1, 127, 128, -128, -129, 255, 256, math.MaxInt64, math.MinInt64} {
				for _, to := range tos {
					for i := range keys {
						if n != 0 && m != 0 && i > 2 {
							break
						}
						if wantEncoded(t, api.Ins{At: 5, Op: op, N: n, M: m, To: to, Keys: keys[i]}) {
							good++
						}
					}
				}
			}
		}
	}
	if good < 1000 {
		t.Errorf("%d instructions that may be", good)
	}
}

func TestP62At(t *testing.T) {
	for _, at := range []int{math.MinInt64, -1 << 32, -8192, -1, 0, 1, 8190, 8191, 8192, 8193, 1 << 16, 1 << 32, math.MaxInt64} {
		for op := range 90 {
			for _, x := range fields(shapeOf(op)) {
				x.Op, x.At = op, at
				if wantEncoded(t, x) != (at >= 0 && at <= 8191) {
					t.Errorf("Encode(%s)", show(x))
				}
			}
		}
	}
}

func TestP62OpIsNone(t *testing.T) {
	for _, op := range noOps() {
		for shape := range 8 {
			for _, x := range fields(shape) {
				x.Op = op
				if b, e := ops.Encode(x); e != api.ErrArg || len(b) != 0 {
					t.Errorf("Encode(%s): %x, %d; want ErrArg", show(x), b, e)
				}
			}
		}
	}
}

func TestP62NotNamed(t *testing.T) {
	for _, x := range samples() {
		shape := shapeOf(x.Op)
		for _, bad := range []int{1, -1, 256, 1 << 32} {
			y := x
			y.M = bad
			if shape != 5 && wantEncoded(t, y) {
				t.Errorf("Encode(%s): its shape names no M", show(y))
			}
			y = x
			y.N = bad
			if (shape == 0 || shape == 4 || shape == 7) && wantEncoded(t, y) {
				t.Errorf("Encode(%s): its shape names no N", show(y))
			}
		}
		for _, l := range [][]int{{0}, {1}, {1, 2}} {
			y := x
			y.Keys = append(slices.Clone(x.Keys), l...)
			if wantEncoded(t, y) && shape != 7 || shape == 7 && len(y.Keys) != len(y.To)-1 && wantEncoded(t, y) {
				t.Errorf("Encode(%s): keys that are not named", show(y))
			}
			y = x
			y.To = append(slices.Clone(x.To), l...)
			if shape != 6 && wantEncoded(t, y) {
				t.Errorf("Encode(%s): places that are not named", show(y))
			}
			wantEncoded(t, y)
		}
	}
}

func TestP62Switches(t *testing.T) {
	for _, others := range []int{0, 1, 2, 255, 256, 999, 1000, 1001, 1002, 2000, 65535, 65536, 65537, 1 << 20} {
		to := slices.Repeat([]int{7}, 1+others)
		for _, n := range []int{0, -1 << 31, -1<<31 - 1, 1<<31 - 1, 1<<31 - others, 1<<31 - others + 1, 1<<31 - others - 1, math.MaxInt64, math.MaxInt64 - others, math.MinInt64} {
			x := api.Ins{At: 3, Op: ops.OpTswitch, N: n, To: to}
			if wantEncoded(t, x) != (within(others, 1, 1000) && within(n, -1<<31, 1<<31-others)) {
				t.Errorf("Encode of a table of %d others from %d on", others, n)
			}
		}
		for _, count := range []int{others - 1, others, others + 1, 0} {
			x := api.Ins{Op: ops.OpLswitch, To: to, Keys: row(-5, max(count, 0))}
			if wantEncoded(t, x) != (others <= 1000 && max(count, 0) == others) {
				t.Errorf("Encode of %d keys and %d others", count, others)
			}
		}
	}
	// Each place and each key is looked at, not the first and the last ones alone.
	for i := range 1001 {
		for _, bad := range []int{-1, 8192} {
			to := row(0, 1001)
			to[i] = bad
			wantEncoded(t, api.Ins{Op: ops.OpTswitch, To: to})
			wantEncoded(t, api.Ins{Op: ops.OpLswitch, To: to, Keys: row(0, 1000)})
		}
		if i < 999 {
			keys := row(0, 1000)
			keys[i] = keys[i+1]
			if wantEncoded(t, api.Ins{Op: ops.OpLswitch, To: row(0, 1001), Keys: keys}) {
				t.Errorf("Encode of keys that are alike at %d", i)
			}
		}
	}
}

func TestP63Table(t *testing.T) {
	if ops.LastOp != 89 || len(allOps()) != 90 || len(allNames()) != 90 {
		t.Fatalf("LastOp %d, %d instructions, %d names", ops.LastOp, len(allOps()), len(allNames()))
	}
	for op, name := range allNames() {
		if allOps()[op] != op {
			t.Errorf("the constant of %s is %d; want %d", name, allOps()[op], op)
		}
		if got := ops.Name(op); got != name {
			t.Errorf("Name(%d): %q; want %q", op, got, name)
		}
		if got, is := ops.Op(name); got != op || !is {
			t.Errorf("Op(%q): %d, %v; want %d", name, got, is, op)
		}
		if got := ops.Shape(op); got != shapeOf(op) {
			t.Errorf("Shape of %s: %d; want %d", name, got, shapeOf(op))
		}
		if ends := among("goto tswitch lswitch throw ireturn lreturn areturn return", name); ops.Ends(op) != ends {
			t.Errorf("Ends of %s: %v", name, !ends)
		}
	}
}

func TestP63Shapes(t *testing.T) {
	l := []int{ops.ShapeNone, ops.ShapeLocal, ops.ShapeNumber, ops.ShapePool, ops.ShapeJump, ops.ShapeCount, ops.ShapeTable, ops.ShapeKeys}
	if !slices.Equal(l, row(0, 8)) {
		t.Errorf("the shapes are %v", l)
	}
	for op, shape := range map[int]int{ops.OpNull: 0, ops.OpAload: 1, ops.OpLconst: 2, ops.OpCast: 3, ops.OpGoto: 4, ops.OpIinc: 5, ops.OpTswitch: 6, ops.OpLswitch: 7} {
		if ops.Shape(op) != l[shape] {
			t.Errorf("Shape(%d): %d; want %d", op, ops.Shape(op), shape)
		}
	}
}

func TestP63Others(t *testing.T) {
	for _, op := range noOps() {
		if ops.Name(op) != "" || ops.Shape(op) != ops.ShapeNone || ops.Ends(op) {
			t.Errorf("%d: %q, %d, %v", op, ops.Name(op), ops.Shape(op), ops.Ends(op))
		}
	}
	for _, name := range noNames() {
		if op, is := ops.Op(name); op != 0 || is {
			t.Errorf("Op(%q): %d, %v; want 0, false", name, op, is)
		}
	}
}

// noNames are texts by which no instruction is called, most of them near to one.
func noNames() []string {
	l := []string{"", " ", "x", "\x00", "op", "Op", "OpNop", "0", "58", "jump", "ret", "switch", "call", "a", "i", "ifs", "nop,", ",", "ＮOP", strings.Repeat("nop", 100000)}
	for _, name := range allNames() {
		l = append(l, strings.ToUpper(name), strings.ToUpper(name[:1])+name[1:], name+" ", " "+name, name+"\x00", name+name, name+"x", "x"+name, name+"\n", name[1:], name[:len(name)-1])
	}
	return slices.DeleteFunc(l, func(s string) bool { return slices.Contains(allNames(), s) })
}

func TestP64Untouched(t *testing.T) {
	for _, x := range samples() {
		room := append(bytes.Repeat([]byte{0xA5}, x.At), bytesOf(x)...)
		length := len(room)
		room = append(room, 0x5A, 0x5A, 0x5A, 0x5A)
		before := bytes.Clone(room)
		ops.Decode(room[:length], x.At)
		ops.Decode(room[:length-1], x.At)
		if !bytes.Equal(room, before) {
			t.Fatalf("Decode of %s has changed its bytes", show(x))
		}
		y := x
		y.To, y.Keys = slices.Concat(x.To, []int{-7, -7})[:len(x.To)], slices.Concat(x.Keys, []int{-7, -7})[:len(x.Keys)]
		toBefore, keysBefore := slices.Clone(y.To[:cap(y.To)]), slices.Clone(y.Keys[:cap(y.Keys)])
		ops.Encode(y)
		if !slices.Equal(y.To[:cap(y.To)], toBefore) || !slices.Equal(y.Keys[:cap(y.Keys)], keysBefore) {
			t.Fatalf("Encode of %s has changed its lists", show(x))
		}
	}
}

// spanOf is where a list lies in memory, its spare room with it.
func spanOf[E any](l []E) (from, to uintptr) {
	if cap(l) == 0 {
		return 0, 0
	}
	var one E
	from = uintptr(unsafe.Pointer(unsafe.SliceData(l)))
	return from, from + uintptr(cap(l))*unsafe.Sizeof(one)
}

// apart tells whether two lists share no memory.
func apart[E, F any](l []E, m []F) bool {
	a, b := spanOf(l)
	c, d := spanOf(m)
	return b <= c || d <= a
}

func TestP64NewMemory(t *testing.T) {
	for _, x := range samples() {
		b := append(make([]byte, x.At), bytesOf(x)...)
		y, _, _ := ops.Decode(b, x.At)
		z, _, _ := ops.Decode(b, x.At)
		if !apart(y.To, z.To) || !apart(y.Keys, z.Keys) || !apart(y.To, y.Keys) || !apart(y.To, b) || !apart(y.Keys, b) {
			t.Fatalf("Decode of %s: lists that share memory", show(x))
		}
		one, _ := ops.Encode(x)
		other, _ := ops.Encode(x)
		if !apart(one, other) || !apart(one, x.To) || !apart(one, x.Keys) {
			t.Fatalf("Encode of %s: bytes that share memory", show(x))
		}
	}
}

func TestP64NotKept(t *testing.T) {
	b := []byte{0x3C, 0, 9, 0, 1, 0xFF, 0xFF, 0xFF, 0xFF, 0, 11}
	x, _, _ := ops.Decode(b, 0)
	clear(b)
	want := api.Ins{Op: ops.OpLswitch, To: []int{9, 11}, Keys: []int{-1}}
	if !reflect.DeepEqual(x, want) {
		t.Errorf("what was decoded has changed with its bytes: %v", x)
	}
	row, _ := ops.Encode(x)
	x.To[0], x.Keys[0] = 0, 0
	if again, _ := ops.Encode(want); !bytes.Equal(row, again) {
		t.Errorf("what was encoded has changed with its lists: %x", row)
	}
}

func TestP65RoundTrip(t *testing.T) {
	for _, x := range samples() {
		b, e := ops.Encode(x)
		if e != api.OK {
			t.Fatalf("Encode(%s): %d", show(x), e)
		}
		for _, behind := range [][]byte{nil, {0xFF}, {0, 0, 0}} {
			code := slices.Concat(bytes.Repeat([]byte{0x11}, x.At), b, behind)
			y, next, e := ops.Decode(code, x.At)
			if e != api.OK || next != x.At+len(b) || !same(x, y) {
				t.Fatalf("Decode of Encode(%s): %s, %d, %d", show(x), show(y), next, e)
			}
		}
	}
}

func TestP65WhatCanBeDecoded(t *testing.T) {
	good := 0
	state := uint32(99)
	b := make([]byte, 8300)
	for i := range b {
		state = state*1664525 + 1013904223
		b[i] = byte(state >> 24)
		if state>>16&1 > 0 {
			b[i] %= 62 // more instructions, and small numbers
		}
	}
	for at := range b {
		x, next, e := ops.Decode(b, at)
		if e != api.OK {
			continue
		}
		good++
		if again, e := ops.Encode(x); e != api.OK || !bytes.Equal(again, b[at:next]) {
			t.Fatalf("Encode of what was decoded at %d: %x, %d; want %x", at, again, e, b[at:next])
		}
	}
	if good < 2000 {
		t.Errorf("%d instructions could be decoded", good)
	}
}

func TestP66NoBeginning(t *testing.T) {
	var l [][]byte
	for _, x := range samples() {
		if x.At == 700 {
			b, _ := ops.Encode(x)
			l = append(l, b)
		}
	}
	slices.SortFunc(l, bytes.Compare)
	// Rows that begin alike stand side by side, the shortest one first; those of a sample that stands twice are alike.
	l = slices.CompactFunc(l, bytes.Equal)
	for i := 1; i < len(l); i++ {
		if bytes.HasPrefix(l[i], l[i-1]) || len(l[i-1]) == 0 {
			t.Errorf("%x begins with %x", l[i], l[i-1])
		}
	}
	for _, b := range l {
		for count := 1; count < min(len(b), 40); count++ {
			if _, _, e := ops.Decode(append(bytes.Repeat([]byte{0}, 700), b[:count]...), 700); e == api.OK {
				t.Errorf("%x, the beginning of %s, is an instruction", b[:count], show(b))
			}
		}
	}
}

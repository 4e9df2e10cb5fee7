package code_test

import (
	"bytes"
	"math"
	"slices"
	"testing"

	"warpbeam/api"
	"warpbeam/code"
	"warpbeam/ops"
)

func TestP71Examples(t *testing.T) {
	l, at, e := code.Cut([]byte{5, 0, 0x53})
	if want := []api.Ins{{Op: ops.OpIload}, {At: 2, Op: ops.OpIreturn}}; !same(l, want) || at != 0 || e != api.OK {
		t.Errorf("Cut(05 00 53): %v, %d, %d; want %v", l, at, e, want)
	}
	wantFault(t, []byte{0}, 0, api.ErrCode)
	wantFault(t, nil, 0, api.ErrCode)
	wantFault(t, []byte{}, 0, api.ErrCode)
	wantFault(t, []byte{0x3A, 0, 1}, 0, api.ErrCode)
	wantFault(t, []byte{0x5A}, 0, api.ErrOp)
	l, at, e = code.Cut([]byte{0, 0x3C, 0, 11, 0, 1, 0xFF, 0xFF, 0xFF, 0xFF, 0xFF, 0xFF, 0x56})
	if want := []api.Ins{{}, {At: 1, Op: ops.OpLswitch, To: []int{12, 0}, Keys: []int{-1}}, {At: 12, Op: ops.OpReturn}}; !same(l, want) || at != 0 || e != api.OK {
		t.Errorf("%v, %d, %d; want %v", l, at, e, want)
	}
}

func TestP71Samples(t *testing.T) {
	for _, b := range samples() {
		if at, e := wantCut(t, b); e != api.OK {
			t.Errorf("Cut(%s): %d, %d; it may be", show(b), at, e)
		}
	}
}

func TestP71OneByte(t *testing.T) {
	for c := range 256 {
		b := []byte{byte(c)}
		_, e := wantCut(t, b)
		if good := c == 78 || c >= 83 && c <= 86; good != (e == api.OK) {
			t.Errorf("Cut(%x): %d", b, e)
		}
		switch {
		case c > 89:
			wantFault(t, b, 0, api.ErrOp)
		case ops.Shape(c) != ops.ShapeNone:
			wantFault(t, b, 0, api.ErrTrunc)
		}
	}
}

func TestP71Length(t *testing.T) {
	for _, b := range longest() {
		l, at, e := code.Cut(b)
		if len(b) != 8192 || e != api.OK || at != 0 || l[len(l)-1].At < 8189 {
			t.Errorf("Cut of %d bytes %s: %d instructions, %d, %d", len(b), show(b), len(l), at, e)
		}
		wantFault(t, append(slices.Clone(b), ret...), 0, api.ErrLimit)
		wantFault(t, append(slices.Clone(b), 0x5A), 0, api.ErrLimit)
	}
	for _, size := range []int{1, 2, 255, 256, 8190, 8191, 8192} {
		wantFault(t, make([]byte, size), size-1, api.ErrCode)
	}
	for _, size := range []int{8193, 8194, 8195, 16384, 65535, 65536, 1 << 20} {
		wantFault(t, make([]byte, size), 0, api.ErrLimit)
		wantFault(t, bytes.Repeat([]byte{0x5A}, size), 0, api.ErrLimit)
		wantFault(t, after(size-1, ret), 0, api.ErrLimit)
	}
	wantFault(t, after(8191, []byte{0x5A}), 8191, api.ErrOp)
	wantFault(t, after(8191, []byte{5}), 8191, api.ErrTrunc)
	wantFault(t, after(8190, far(ops.OpGoto, 0)[:2]), 8190, api.ErrTrunc)
}

func TestP71EachPlaceIsNone(t *testing.T) {
	// A byte that is no instruction's at each place where one begins: the first, one in the middle, the last.
	for _, b := range samples() {
		l, _, _ := code.Cut(b)
		if len(l) > 40 {
			l = []api.Ins{l[0], l[1], l[len(l)/2], l[len(l)-2], l[len(l)-1]}
		}
		for _, x := range l {
			for _, bad := range []byte{90, 91, 128, 255} {
				spoilt := slices.Clone(b)
				spoilt[x.At] = bad
				wantFault(t, spoilt, x.At, api.ErrOp)
			}
		}
	}
}

func TestP71EachInstructionIsCut(t *testing.T) {
	for op := range ops.LastOp + 1 {
		b := filled(op)
		for size := 1; size < len(b); size++ {
			for _, nops := range []int{0, 1, 7, 300} {
				wantFault(t, after(nops, b[:size]), nops, api.ErrTrunc)
			}
		}
	}
	// In the middle a switch is cut that says more places than there are bytes behind it.
	for _, b := range [][]byte{{59, 0, 0, 0, 0, 0, 5, 0, 9, 0, 0}, {60, 0, 0, 0, 9}} {
		wantFault(t, after(2, b, []byte{0, 0}, ret), 2, api.ErrTrunc)
	}
}

func TestP71EachCodeIsCut(t *testing.T) {
	d := &dice{state: 11}
	for range 60 {
		b := mixed(d, 20)
		for size := range b {
			wantCut(t, b[:size])
		}
	}
}

func TestP71GoesTo(t *testing.T) {
	// nop at 0, iload at 1, what goes at 3, return behind it: instructions begin at 0, 1, 3 and there, and nowhere else.
	for op := range ops.LastOp + 1 {
		shape := ops.Shape(op)
		if shape != ops.ShapeJump && shape != ops.ShapeTable && shape != ops.ShapeKeys {
			continue
		}
		for to := range 8192 {
			if to > 30 && to < 8180 {
				continue
			}
			rows := [][]byte{far(op, to-3)}
			switch shape {
			case ops.ShapeTable:
				rows = [][]byte{table(to-3, 0, 0, 0), table(0, to-3, 0, 0), table(0, 0, to-3, 0), table(0, 0, 0, to-3)}
			case ops.ShapeKeys:
				rows = [][]byte{keys(to-3, 0, 0, 0), keys(0, to-3, 0, 0), keys(0, 0, to-3, 0), keys(0, 0, 0, to-3), keys(to - 3)}
			}
			for _, row := range rows {
				b := slices.Concat([]byte{0, 5, 0}, row, ret)
				if begins := to == 0 || to == 1 || to == 3 || to == len(b)-1; begins {
					if at, e := wantCut(t, b); e != api.OK {
						t.Errorf("%s at 3 to %d: %d, %d", ops.Name(op), to, at, e)
					}
				} else {
					wantFault(t, b, 3, api.ErrCode)
				}
			}
		}
	}
}

func TestP71Last(t *testing.T) {
	for op := range ops.LastOp + 1 {
		b := filled(op)
		for _, nops := range []int{0, 1, 500, 8192 - len(b)} {
			code := after(nops, b)
			if among("goto tswitch lswitch throw ireturn lreturn areturn return", op) {
				if at, e := wantCut(t, code); e != api.OK {
					t.Errorf("%s comes last: %d, %d", ops.Name(op), at, e)
				}
			} else {
				wantFault(t, code, nops, api.ErrCode)
			}
		}
		if at, e := wantCut(t, after(3, b, ret)); e != api.OK {
			t.Errorf("%s ahead of return: %d, %d", ops.Name(op), at, e)
		}
	}
}

func TestP71WhichFirst(t *testing.T) {
	stray := far(ops.OpGoto, 2)
	beyond := far(ops.OpIfeq, -9)
	for _, c := range []struct {
		b  []byte
		at int
		e  api.Errno
	}{
		// An instruction that is wrong by itself comes ahead of one that goes astray, and the first of several is told.
		{after(0, stray, []byte{0x5A}), 3, api.ErrOp}, {after(0, stray, []byte{5}), 3, api.ErrTrunc}, {after(0, stray, beyond, ret), 3, api.ErrSyntax},
		{after(0, []byte{0x5A}, beyond, stray), 0, api.ErrOp}, {after(1, beyond, []byte{0x5A}), 1, api.ErrSyntax}, {after(1, []byte{0x5B}, []byte{0x5A}), 1, api.ErrOp}, {after(1, beyond, beyond), 1, api.ErrSyntax},
		// One that goes astray comes ahead of a last one that does not end, be it the last one or not.
		{after(2, stray, []byte{0}), 2, api.ErrCode}, {after(2, far(ops.OpIfeq, 1)), 2, api.ErrCode}, {after(0, stray, stray, ret), 0, api.ErrCode}, {after(4, ret, stray), 5, api.ErrCode}, {after(4, ret, far(ops.OpGoto, -5), []byte{0}), 8, api.ErrCode},
		{after(0, stray, []byte{0}), 0, api.ErrCode}, {after(3, far(ops.OpGoto, 3)), 3, api.ErrCode}, {after(3, far(ops.OpGoto, 3), []byte{0}), 6, api.ErrCode}, {after(0, far(ops.OpGoto, 5), stray, stray, ret), 0, api.ErrCode}, {after(0, far(ops.OpGoto, 6), stray, far(ops.OpGoto, 1), ret), 3, api.ErrCode},
		// What is never reached is looked at, too.
		{after(0, ret, stray, ret), 1, api.ErrCode}, {after(0, ret, []byte{0x5A}, ret), 1, api.ErrOp}, {after(0, ret, []byte{0}), 1, api.ErrCode},
		{append(make([]byte, 8192), 0x5A), 0, api.ErrLimit},
	} {
		wantFault(t, c.b, c.at, c.e)
	}
}

func TestP71Mixed(t *testing.T) {
	d := &dice{state: 3}
	ends := map[api.Errno]int{}
	for range 40000 {
		b := mixed(d, d.roll(12))
		for range d.roll(3) {
			b[d.roll(len(b))] = byte(d.roll(d.roll(256) + 1))
		}
		_, e := wantCut(t, b)
		ends[e]++
	}
	for _, e := range []api.Errno{api.OK, api.ErrTrunc, api.ErrSyntax, api.ErrOp, api.ErrCode} {
		if ends[e] < 300 {
			t.Errorf("%d codes of error %d", ends[e], e)
		}
	}
}

// wantJoin tells that Join answers these bytes, and that Cut answers what was joined.
func wantJoin(t *testing.T, l []api.Ins, want []byte) {
	t.Helper()
	if b, e := code.Join(l); e != api.OK || !bytes.Equal(b, want) {
		t.Errorf("Join(%s): %s, %d; want %s", show(l), show(b), e, show(want))
	}
	if m, at, e := code.Cut(want); e != api.OK || at != 0 || !same(l, m) {
		t.Errorf("Cut of what was joined of %s: %s, %d, %d", show(l), show(m), at, e)
	}
}

// wantNoJoin tells that Join answers ErrCode.
func wantNoJoin(t *testing.T, l []api.Ins) {
	t.Helper()
	if b, e := code.Join(l); e != api.ErrCode || len(b) != 0 {
		t.Errorf("Join(%s): %s, %d; want ErrCode", show(l), show(b), e)
	}
}

// wantJoined holds Join against what Cut answers: the bytes of the instructions are joined, if they are cut so; it tells whether they are.
func wantJoined(t *testing.T, l []api.Ins) bool {
	t.Helper()
	var b []byte
	for _, x := range l {
		row, _ := ops.Encode(x)
		b = append(b, row...)
	}
	if m, _, e := cut(b); e == api.OK && same(l, m) {
		wantJoin(t, l, b)
		return true
	}
	wantNoJoin(t, l)
	return false
}

func TestP72Joined(t *testing.T) {
	for _, b := range samples() {
		l, _, _ := code.Cut(b)
		wantJoin(t, l, b)
	}
	wantNoJoin(t, nil)
	wantNoJoin(t, []api.Ins{})
	// Lists without elements may be nil or not.
	wantJoin(t, []api.Ins{{Op: ops.OpNop, To: []int{}, Keys: []int{}}, {At: 1, Op: ops.OpGoto, To: []int{0}, Keys: []int{}}}, []byte{0, 58, 0xFF, 0xFF})
	wantJoin(t, []api.Ins{{Op: ops.OpLswitch, To: []int{0}, Keys: []int{}}}, keys(0))
}

func TestP72OutAndIn(t *testing.T) {
	d := &dice{state: 5}
	good, bad := 0, 0
	count := func(is bool) {
		if is {
			good++
		} else {
			bad++
		}
	}
	for range 200 {
		b := mixed(d, 8)
		l, _, _ := code.Cut(b)
		for i := range l {
			count(wantJoined(t, slices.Delete(slices.Clone(l), i, i+1)))
			count(wantJoined(t, l[:i]))
			count(wantJoined(t, l[i:]))
			count(wantJoined(t, slices.Insert(slices.Clone(l), i, l[i])))
			count(wantJoined(t, slices.Insert(slices.Clone(l), i, api.Ins{At: l[i].At})))
			count(wantJoined(t, slices.Insert(slices.Clone(l), i, api.Ins{})))
			moved := slices.Clone(l)
			slices.Reverse(moved[i:])
			count(wantJoined(t, moved))
			moved = slices.Clone(l)
			moved[i], moved[0] = moved[0], moved[i]
			count(wantJoined(t, moved))
		}
		count(wantJoined(t, append(slices.Clone(l), api.Ins{At: len(b), Op: ops.OpReturn})))
		count(wantJoined(t, append(slices.Clone(l), api.Ins{At: len(b)})))
		count(wantJoined(t, append(slices.Clone(l), api.Ins{At: len(b) + 1, Op: ops.OpReturn})))
		count(wantJoined(t, append(slices.Clone(l), l...)))
	}
	if good < 200 || bad < 2000 {
		t.Errorf("%d lists that are joined, %d that are not", good, bad)
	}
}

func TestP72OtherFields(t *testing.T) {
	d := &dice{state: 6}
	for range 60 {
		l, _, _ := code.Cut(mixed(d, 8))
		for i, x := range l {
			change := func(y api.Ins) bool {
				m := slices.Clone(l)
				m[i] = y
				return wantJoined(t, m)
			}
			for _, n := range []int{-1, 1, 2, -x.At - 1, 8192, 1 << 32, math.MinInt64 - x.At, math.MaxInt64 - x.At} {
				y := x
				y.At += n
				if change(y) {
					t.Errorf("Join of %s, with another At %d", show(l), y.At)
				}
			}
			for _, n := range []int{-1, 0, 1, 255, 256, 40000, 65536, 1 << 33} {
				y := x
				y.N = n
				change(y)
				y = x
				y.M = n
				change(y)
				y = x
				y.Op = n
				change(y)
			}
			for _, to := range [][]int{nil, {0}, {1}, {l[len(l)-1].At}, {-1}, {8191}, {8192}, {0, 0}, {0, 8191}, {0, 0, 0}} {
				y := x
				y.To = to
				change(y)
				y.Keys = make([]int, max(len(to)-1, 0))
				change(y)
			}
		}
	}
}

func TestP72Long(t *testing.T) {
	nops := func(count int, last api.Ins) []api.Ins {
		l := make([]api.Ins, count)
		for i := range l {
			l[i].At = i
		}
		last.At = count
		return append(l, last)
	}
	end, jump := api.Ins{Op: ops.OpReturn}, api.Ins{Op: ops.OpGoto, To: []int{0}}
	wantJoin(t, nops(8191, end), after(8191, ret))
	wantJoin(t, nops(8189, jump), after(8189, far(ops.OpGoto, -8189)))
	// The last one begins where it may, but ends beyond what code may have.
	wantNoJoin(t, nops(8190, jump))
	wantNoJoin(t, nops(8191, jump))
	wantNoJoin(t, nops(8192, end))
	wantNoJoin(t, nops(100000, end))
	wantNoJoin(t, make([]api.Ins, 1<<20))
	wantNoJoin(t, []api.Ins{{Op: ops.OpTswitch, To: make([]int, 1<<20)}})
	wantNoJoin(t, []api.Ins{{Op: ops.OpTswitch, To: make([]int, 1002)}})
	wantJoin(t, []api.Ins{{Op: ops.OpTswitch, N: 5, To: make([]int, 1001)}}, table(make([]int, 1001)...))
}

func TestP72Place(t *testing.T) {
	for _, b := range samples() {
		l, _, _ := code.Cut(b)
		begins := map[int]int{}
		for i, x := range l {
			begins[x.At] = i
		}
		step := max(1, len(b)/500)
		for at := -3; at < len(b)+3; at += step {
			want, wantIs := begins[at]
			if i, is := code.Place(l, at); i != want || is != wantIs {
				t.Fatalf("Place(%s, %d): %d, %v; want %d, %v", show(l), at, i, is, want, wantIs)
			}
		}
		for _, at := range []int{math.MinInt64, math.MaxInt64, 1 << 32, -1 << 32, 8192, 1 << 16} {
			if i, is := code.Place(l, at); i != 0 || is {
				t.Fatalf("Place(%s, %d): %d, %v", show(l), at, i, is)
			}
		}
		if i, is := code.Place(l, l[len(l)-1].At); i != len(l)-1 || !is {
			t.Fatalf("Place of the last one: %d, %v; want %d", i, is, len(l)-1)
		}
	}
}

func TestP72PlaceOfOthers(t *testing.T) {
	l := []api.Ins{{At: 5}, {At: -7, Op: 300}, {At: 5, Op: 1}, {At: math.MaxInt64}, {At: 0}, {At: -7}, {At: math.MinInt64}, {At: 0}}
	for at, want := range map[int]int{5: 0, -7: 1, math.MaxInt64: 3, 0: 4, math.MinInt64: 6} {
		if i, is := code.Place(l, at); i != want || !is {
			t.Errorf("Place(%v, %d): %d, %v; want %d", l, at, i, is, want)
		}
	}
	for _, at := range []int{1, 2, 3, 4, 6, -1, -5} {
		if i, is := code.Place(l, at); i != 0 || is {
			t.Errorf("Place(%v, %d): %d, %v; want 0, false", l, at, i, is)
		}
		if i, is := code.Place(nil, at); i != 0 || is {
			t.Errorf("Place(none, %d): %d, %v; want 0, false", at, i, is)
		}
	}
}

func TestP75RoundTrip(t *testing.T) {
	for _, b := range samples() {
		l, _, e := code.Cut(b)
		if e != api.OK {
			t.Fatalf("Cut(%s): %d", show(b), e)
		}
		joined, e := code.Join(l)
		if e != api.OK || !bytes.Equal(joined, b) {
			t.Fatalf("Join of Cut(%s): %s, %d", show(b), show(joined), e)
		}
		again, _, e := code.Cut(joined)
		if e != api.OK || !same(l, again) {
			t.Fatalf("Cut of Join of %s: %s, %d", show(l), show(again), e)
		}
	}
}

func TestP76NoGap(t *testing.T) {
	for _, b := range samples() {
		l, _, _ := code.Cut(b)
		next := 0
		for _, x := range l {
			row, e := ops.Encode(x)
			if x.At != next || e != api.OK || len(row) == 0 {
				t.Fatalf("Cut(%s): %s, at %d", show(b), show(x), next)
			}
			next += len(row)
			for _, to := range x.To {
				if i, is := code.Place(l, to); !is || l[i].At != to {
					t.Fatalf("Cut(%s): %s goes to none", show(b), show(x))
				}
			}
		}
		if next != len(b) || len(l) == 0 {
			t.Fatalf("Cut(%s): up to %d", show(b), next)
		}
	}
}

package code_test

import (
	"fmt"
	"slices"
	"strings"
	"testing"

	"warpbeam/api"
	"warpbeam/code"
	"warpbeam/ops"
)

// show is as much of a thing as can be looked at.
func show(x any) string {
	return fmt.Sprintf("%.200s", fmt.Sprintf("%v", x))
}

// among tells whether an instruction's name is one of a list's, with blanks between.
func among(list string, op int) bool {
	return slices.Contains(strings.Fields(list), ops.Name(op))
}

// same tells whether two lists have the same instructions: a list of places or keys without elements may be nil or not.
func same(l, m []api.Ins) bool {
	return slices.EqualFunc(l, m, func(x, y api.Ins) bool {
		return x.At == y.At && x.Op == y.Op && x.N == y.N && x.M == y.M && slices.Equal(x.To, y.To) && slices.Equal(x.Keys, y.Keys)
	})
}

// cut is what Cut answers, by the chapter's words.
func cut(b []byte) ([]api.Ins, int, api.Errno) {
	if len(b) > 8192 {
		return nil, 0, api.ErrLimit
	}
	if len(b) == 0 {
		return nil, 0, api.ErrCode
	}
	var l []api.Ins
	starts := map[int]int{}
	for at := 0; at < len(b); {
		x, next, e := ops.Decode(b, at)
		if e != api.OK {
			return nil, at, e
		}
		starts[at] = len(l)
		l = append(l, x)
		at = next
	}
	for _, x := range l {
		for _, to := range x.To {
			if _, is := starts[to]; !is {
				return nil, x.At, api.ErrCode
			}
		}
	}
	last := l[len(l)-1]
	if !among("goto tswitch lswitch throw ireturn lreturn areturn return", last.Op) {
		return nil, last.At, api.ErrCode
	}
	return l, 0, api.OK
}

// fits tells whether an instruction fits, by the chapter's words.
func fits(x api.Ins, locals int, pool []api.Const) bool {
	kind := -1
	if x.N > 0 && x.N < len(pool) {
		kind = pool[x.N].Kind
	}
	switch {
	case among("lload lstore", x.Op):
		return x.N < locals && x.N+1 < locals
	case among("iload aload istore astore iinc", x.Op):
		return x.N < locals
	case among("ldc", x.Op):
		return kind == 2 || kind == 3
	case among("getstatic putstatic getfield putfield", x.Op):
		return kind == 5
	case among("new newrefs cast is", x.Op):
		return kind == 4
	case among("callstatic callvirtual callinterface callspecial", x.Op):
		return kind == 6
	}
	return true
}

// handlerFits tells whether a handler fits, by the chapter's words.
func handlerFits(h api.Handler, l []api.Ins, size int, pool []api.Const) bool {
	starts := func(at int) bool {
		return slices.ContainsFunc(l, func(x api.Ins) bool { return x.At == at })
	}
	if !starts(h.From) || !starts(h.At) || !starts(h.To) && h.To != size || h.To <= h.From {
		return false
	}
	return h.Class == 0 || h.Class > 0 && h.Class < len(pool) && pool[h.Class].Kind == 4
}

// checked is what Check answers, by the chapter's words.
func checked(m api.Method, pool []api.Const) ([]api.Ins, int, api.Errno) {
	l, at, e := cut(m.Code)
	if e != api.OK {
		return nil, at, e
	}
	for _, x := range l {
		if !fits(x, m.Locals, pool) {
			return nil, x.At, api.ErrCode
		}
	}
	good := m.Stack >= 0 && m.Stack <= 255 && m.Locals >= 0 && m.Locals <= 255 && len(m.Handlers) <= 256
	for _, h := range m.Handlers {
		good = good && handlerFits(h, l, len(m.Code), pool)
	}
	if !good {
		return nil, 0, api.ErrCode
	}
	return l, 0, api.OK
}

// wantCut holds Cut against what the chapter's words make of it, and answers how it ended.
func wantCut(t *testing.T, b []byte) (int, api.Errno) {
	t.Helper()
	want, wantAt, wantE := cut(b)
	l, at, e := code.Cut(b)
	if !same(l, want) || at != wantAt || e != wantE {
		t.Fatalf("Cut(%s): %s, %d, %d; want %s, %d, %d", show(b), show(l), at, e, show(want), wantAt, wantE)
	}
	return at, e
}

// wantFault holds Cut against one error, at one place.
func wantFault(t *testing.T, b []byte, wantAt int, wantE api.Errno) {
	t.Helper()
	if l, at, e := code.Cut(b); len(l) != 0 || at != wantAt || e != wantE {
		t.Errorf("Cut(%s): %s, %d, %d; want nothing, %d, %d", show(b), show(l), at, e, wantAt, wantE)
	}
	wantCut(t, b)
}

// wantCheck holds Check against what the chapter's words make of it, and answers how it ended.
func wantCheck(t *testing.T, m api.Method, pool []api.Const) (int, api.Errno) {
	t.Helper()
	want, wantAt, wantE := checked(m, pool)
	l, at, e := code.Check(m, pool)
	if !same(l, want) || at != wantAt || e != wantE {
		t.Fatalf("Check(%s, %s): %s, %d, %d; want %s, %d, %d", show(m), show(pool), show(l), at, e, show(want), wantAt, wantE)
	}
	return at, e
}

// wantUnfit holds Check against one error, at one place.
func wantUnfit(t *testing.T, m api.Method, pool []api.Const, wantAt int, wantE api.Errno) {
	t.Helper()
	if l, at, e := code.Check(m, pool); len(l) != 0 || at != wantAt || e != wantE {
		t.Errorf("Check(%s, %s): %s, %d, %d; want nothing, %d, %d", show(m), show(pool), show(l), at, e, wantAt, wantE)
	}
	wantCheck(t, m, pool)
}

// wantFit tells that Check answers the instructions.
func wantFit(t *testing.T, m api.Method, pool []api.Const) {
	t.Helper()
	if at, e := wantCheck(t, m, pool); e != api.OK {
		t.Errorf("Check(%s, %s): %d, %d; it fits", show(m), show(pool), at, e)
	}
}

// two is a number in two bytes, the highest one first.
func two(n int) []byte { return []byte{byte(n >> 8), byte(n)} }

// local is an instruction with a local, of two bytes; iinc has one more.
func local(op, n int) []byte {
	if op == ops.OpIinc {
		return []byte{byte(op), byte(n), 1}
	}
	return []byte{byte(op), byte(n)}
}

// far is an instruction that goes so far.
func far(op, n int) []byte { return append([]byte{byte(op)}, two(n)...) }

// table, keys are switches that go so far, the default first.
func table(to ...int) []byte {
	b := slices.Concat([]byte{59}, two(to[0]), []byte{0, 0, 0, 5}, two(len(to)-1))
	for _, n := range to[1:] {
		b = append(b, two(n)...)
	}
	return b
}

func keys(to ...int) []byte {
	b := slices.Concat([]byte{60}, two(to[0]), two(len(to)-1))
	for i, n := range to[1:] {
		b = append(append(b, 0, 0, 0, byte(i)), two(n)...)
	}
	return b
}

// after is bytes of nop, and others behind these.
func after(nops int, rows ...[]byte) []byte {
	return append(make([]byte, nops), slices.Concat(rows...)...)
}

var ret = []byte{ops.OpReturn}

// filled is the least bytes of an instruction, zeros behind its number; a table has one place beside its default.
func filled(op int) []byte {
	b := make([]byte, []int{1, 2, 3, 3, 3, 3, 11, 5}[ops.Shape(op)])
	b[0] = byte(op)
	if ops.Shape(op) == ops.ShapeTable {
		b[8] = 1
	}
	return b
}

// dice are numbers that look like none, always the same.
type dice struct{ state uint64 }

func (d *dice) roll(n int) int {
	d.state = d.state*6364136223846793005 + 1442695040888963407
	return int(d.state>>33) % n
}

// mixed is code that may be, of so many instructions and a last one that ends.
func mixed(d *dice, count int) []byte {
	var l []api.Ins
	size := 0
	put := func(op int) {
		x := api.Ins{At: size, Op: op}
		switch ops.Shape(op) {
		case ops.ShapeLocal, ops.ShapePool:
			x.N = d.roll(9)
		case ops.ShapeNumber:
			x.N = d.roll(65536) - 32768
		case ops.ShapeCount:
			x.N, x.M = d.roll(9), d.roll(256)-128
		case ops.ShapeJump:
			x.To = make([]int, 1)
		case ops.ShapeTable:
			x.N, x.To = d.roll(99)-50, make([]int, 2+d.roll(4))
		case ops.ShapeKeys:
			x.To = make([]int, 1+d.roll(4))
			for i := range x.To[1:] {
				x.Keys = append(x.Keys, i*7-9)
			}
		}
		b, _ := ops.Encode(x)
		size += len(b)
		l = append(l, x)
	}
	for range count {
		put(d.roll(ops.LastOp + 1))
	}
	put([]int{58, 59, 60, 78, 83, 84, 85, 86}[d.roll(8)])
	var b []byte
	for _, x := range l {
		for i := range x.To {
			x.To[i] = l[d.roll(len(l))].At
		}
		row, _ := ops.Encode(x)
		b = append(b, row...)
	}
	return b
}

// longest are some codes of 8192 bytes that may be.
func longest() [][]byte {
	nops := after(8191, ret)
	jumps := after(8189, far(ops.OpGoto, -8189))
	forth := append(far(ops.OpGoto, 8191), after(8188, ret)...)
	var wide []byte
	for len(wide)+2007 < 8192 {
		wide = append(wide, table(make([]int, 1000)...)...)
	}
	return [][]byte{nops, jumps, forth, append(wide, after(8191-len(wide), ret)...)}
}

// samples are codes that may be.
func samples() [][]byte {
	l := append(longest(), ret, []byte{5, 0, 0x53}, far(ops.OpGoto, 0), table(0, 0), keys(0), keys(0, 0, 0), after(1, far(ops.OpIfeq, -1), ret))
	d := &dice{state: 7}
	for i := range 300 {
		l = append(l, mixed(d, i%40))
	}
	return l
}

package code_test

import (
	"bytes"
	"slices"
	"testing"
	"unsafe"

	"warpbeam/api"
	"warpbeam/code"
	"warpbeam/ops"
)

// roomy is a list with spare room, in which something stands.
func roomy[E any](l []E, beyond ...E) []E {
	return slices.Concat(l, beyond)[:len(l)]
}

// whole is a list with what stands in its spare room, in memory of its own.
func whole[E any](l []E) []E {
	return slices.Clone(l[:cap(l)])
}

// spanOf is where a list lies in memory, its spare room with it.
func spanOf[E any](l []E) (from, to uintptr) {
	if cap(l) == 0 {
		return 0, 0
	}
	var one E
	from = uintptr(unsafe.Pointer(unsafe.SliceData(l)))
	return from, from + uintptr(cap(l))*unsafe.Sizeof(one)
}

// apart tells whether two lists share no memory.
func apart[E, F any](l []E, m []F) bool {
	a, b := spanOf(l)
	c, d := spanOf(m)
	return b <= c || d <= a
}

// allApart tells whether all places and keys of some lists of instructions lie apart.
func allApart(lists ...[]api.Ins) bool {
	var l [][]int
	for _, m := range lists {
		for _, x := range m {
			for _, row := range [][]int{x.To, x.Keys} {
				if cap(row) > 0 {
					l = append(l, row)
				}
			}
		}
	}
	for i := range l {
		for _, row := range l[:i] {
			if !apart(row, l[i]) {
				return false
			}
		}
	}
	return true
}

// switches are codes with jumps and switches.
func switches() [][]byte {
	d := &dice{state: 21}
	l := [][]byte{after(0, far(ops.OpIfeq, 0), table(0, -3, 0), keys(0, 0, 0, 0), keys(0), far(ops.OpGoto, 0))}
	for range 60 {
		l = append(l, mixed(d, 30))
	}
	return l
}

func TestP74Untouched(t *testing.T) {
	for _, b := range switches() {
		m := api.Method{Locals: 10, Code: roomy(b, 0x5A, 0x5A), Handlers: roomy([]api.Handler{{To: len(b)}}, api.Handler{At: 9})}
		pool := roomy(someConsts(0), api.Const{Kind: 4})
		codeBefore, handlersBefore, poolBefore := whole(m.Code), whole(m.Handlers), whole(pool)
		l, _, _ := code.Cut(m.Code)
		code.Check(m, pool)
		code.Covers(m, 0)
		if !bytes.Equal(whole(m.Code), codeBefore) || !slices.Equal(whole(m.Handlers), handlersBefore) || !slices.Equal(whole(pool), poolBefore) {
			t.Fatalf("Cut, Check or Covers of %s has changed what was handed in", show(b))
		}
		l = roomy(l, api.Ins{At: 77, Op: -1})
		for i := range l {
			l[i].To, l[i].Keys = roomy(l[i].To, -7), roomy(l[i].Keys, -7)
		}
		before := whole(l)
		for i := range before {
			before[i].To, before[i].Keys = whole(before[i].To), whole(before[i].Keys)
		}
		code.Join(l)
		code.Join(l[1:])
		code.Place(l, len(b))
		after := whole(l)
		for i := range after {
			after[i].To, after[i].Keys = whole(after[i].To), whole(after[i].Keys)
		}
		if !same(before, after) {
			t.Fatalf("Join or Place of %s has changed the list", show(b))
		}
	}
}

func TestP74NewMemory(t *testing.T) {
	checked := 0
	for _, b := range switches() {
		m := api.Method{Locals: 255, Code: b, Handlers: []api.Handler{{To: len(b)}}}
		one, _, _ := code.Cut(b)
		other, _, _ := code.Cut(b)
		if !apart(one, other) || !apart(one, b) || !allApart(one, other) {
			t.Fatalf("Cut(%s): lists that share memory", show(b))
		}
		pool := slices.Repeat([]api.Const{{Kind: 4}}, 20)
		third, _, e := code.Check(m, pool)
		fourth, _, _ := code.Check(m, pool)
		if !apart(third, fourth) || !apart(third, one) || !allApart(one, third, fourth) {
			t.Fatalf("Check(%s): lists that share memory", show(b))
		}
		if e == api.OK {
			checked++
		}
		p, _ := code.Join(one)
		q, _ := code.Join(one)
		if !apart(p, q) || !apart(p, b) {
			t.Fatalf("Join of %s: bytes that share memory", show(b))
		}
		if !apart(code.Covers(m, 0), code.Covers(m, 0)) {
			t.Fatal("Covers: lists that share memory")
		}
	}
	if checked == 0 {
		t.Error("no code fits")
	}
}

func TestP74NotKept(t *testing.T) {
	for _, b := range switches() {
		handed := bytes.Clone(b)
		l, _, e := code.Cut(handed)
		clear(handed)
		if want, _, _ := cut(b); e != api.OK || !same(l, want) {
			t.Fatalf("what was cut of %s has changed with its bytes: %s", show(b), show(l))
		}
		row, _ := code.Join(l)
		for _, x := range l {
			clear(x.To)
			clear(x.Keys)
		}
		clear(l)
		if !bytes.Equal(row, b) {
			t.Fatalf("what was joined of %s has changed with the list: %s", show(b), show(row))
		}
		if again, _, e := code.Cut(b); e != api.OK || len(again) != len(l) {
			t.Fatalf("Cut(%s) hangs on an earlier one: %d", show(b), e)
		}
	}
	m := handled(api.Handler{To: 7})
	l := code.Covers(m, 3)
	m.Handlers[0] = api.Handler{}
	if !slices.Equal(l, []int{0}) {
		t.Errorf("what Covers has answered has changed with the handlers: %v", l)
	}
}

func TestP74ErrorsAlone(t *testing.T) {
	// Beside an error there is nothing but the place.
	for _, b := range [][]byte{after(3, far(ops.OpGoto, 1), ret), after(3, []byte{0x5A}), make([]byte, 40), make([]byte, 9000)} {
		if l, _, e := code.Cut(b); e == api.OK || len(l) != 0 {
			t.Errorf("Cut(%s): %s, %d", show(b), show(l), e)
		}
		if l, _, e := code.Check(api.Method{Code: b}, nil); e == api.OK || len(l) != 0 {
			t.Errorf("Check(%s): %s, %d", show(b), show(l), e)
		}
	}
}

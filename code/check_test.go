package code_test

import (
	"math"
	"slices"
	"testing"

	"warpbeam/api"
	"warpbeam/code"
	"warpbeam/ops"
)

// someConsts are constants of each kind, and of kinds that are none; the first one has a kind, too, which counts for nothing.
func someConsts(first int) []api.Const {
	l := []api.Const{{Kind: first}}
	for _, kind := range []int{1, 2, 3, 4, 5, 6, 0, 7, -1, 256 + 4, 1<<32 + 4, 6, 5, 4, 3, 2, 1} {
		l = append(l, api.Const{Kind: kind})
	}
	return l
}

// ofOp is a method of nop, one instruction and return.
func ofOp(b []byte, locals int) api.Method {
	return api.Method{Locals: locals, Code: after(1, b, ret)}
}

// handled is a method of nop at 0, iload at 1, goto at 3, return at 6: 7 bytes.
func handled(l ...api.Handler) api.Method {
	return api.Method{Locals: 1, Stack: 1, Code: []byte{0, 5, 0, 58, 0, 3, 86}, Handlers: l}
}

func TestP73Examples(t *testing.T) {
	m := api.Method{Code: []byte{5, 0, 0x53}}
	wantUnfit(t, m, nil, 0, api.ErrCode)
	m.Locals = 1
	wantFit(t, m, nil)
	l, at, e := code.Check(m, nil)
	if want := []api.Ins{{Op: ops.OpIload}, {At: 2, Op: ops.OpIreturn}}; !same(l, want) || at != 0 || e != api.OK {
		t.Errorf("Check: %v, %d, %d; want %v", l, at, e, want)
	}
}

func TestP73CutFirst(t *testing.T) {
	// What Cut says of the code comes first, whatever else does not fit.
	all := api.Handler{From: -1, To: -1, At: -1, Class: -1}
	for _, c := range []struct {
		b  []byte
		at int
		e  api.Errno
	}{
		{nil, 0, api.ErrCode}, {make([]byte, 8193), 0, api.ErrLimit}, {[]byte{0}, 0, api.ErrCode}, {[]byte{5, 0, 0x5A}, 2, api.ErrOp}, {[]byte{5, 0, 5}, 2, api.ErrTrunc}, {[]byte{5, 0, 58, 0, 1}, 2, api.ErrCode}, {[]byte{5, 0, 58, 0xFF, 0xF0}, 2, api.ErrSyntax}, {[]byte{5, 0, 0}, 2, api.ErrCode},
	} {
		for _, m := range []api.Method{{}, {Locals: 1}, {Locals: -1, Stack: -1}, {Stack: 256, Handlers: []api.Handler{all}}, {Locals: 256, Handlers: slices.Repeat([]api.Handler{all}, 257)}} {
			m.Code = c.b
			wantUnfit(t, m, nil, c.at, c.e)
		}
	}
}

func TestP73Locals(t *testing.T) {
	for op := range ops.LastOp + 1 {
		most := 0
		switch {
		case among("iload aload istore astore iinc", op):
			most = 1
		case among("lload lstore", op):
			most = 2
		default:
			continue
		}
		for _, locals := range []int{0, 1, 2, 3, 9, 127, 128, 129, 253, 254, 255} {
			for n := range 256 {
				m := ofOp(local(op, n), locals)
				if n+most <= locals {
					wantFit(t, m, nil)
				} else {
					wantUnfit(t, m, nil, 1, api.ErrCode)
				}
			}
		}
		// With more locals than there may be, or fewer than none: what the instruction has is told first, if it does not fit.
		wantUnfit(t, ofOp(local(op, 255), 256), nil, most-1, api.ErrCode)
		wantUnfit(t, ofOp(local(op, 255), 257), nil, 0, api.ErrCode)
		wantUnfit(t, ofOp(local(op, 255), math.MaxInt64), nil, 0, api.ErrCode)
		wantUnfit(t, ofOp(local(op, 0), -1), nil, 1, api.ErrCode)
		wantUnfit(t, ofOp(local(op, 0), math.MinInt64), nil, 1, api.ErrCode)
	}
}

func TestP73NoLocal(t *testing.T) {
	// A number that is no local asks for none, be it ever so great.
	for _, b := range [][]byte{{ops.OpIconst, 0, 200}, {ops.OpLconst, 0x7F, 0xFF}, {ops.OpIconst, 0x80, 0}, table(11, -1), keys(0, 0)} {
		wantFit(t, ofOp(b, 0), nil)
	}
}

// kindsOf are the kinds of constants that an instruction may name.
func kindsOf(op int) []int {
	switch {
	case op == ops.OpLdc:
		return []int{2, 3}
	case op >= ops.OpGetstatic && op <= ops.OpPutfield:
		return []int{5}
	case op == ops.OpNew || op == ops.OpNewrefs || op == ops.OpCast || op == ops.OpIs:
		return []int{4}
	case op >= ops.OpCallstatic && op <= ops.OpCallspecial:
		return []int{6}
	}
	return nil
}

func TestP73Consts(t *testing.T) {
	count := 0
	for op := range ops.LastOp + 1 {
		kinds := kindsOf(op)
		if (kinds == nil) == (ops.Shape(op) == ops.ShapePool) {
			t.Fatalf("%s: kinds %v", ops.Name(op), kinds)
		}
		if kinds == nil {
			continue
		}
		for first := range 7 {
			pool := someConsts(first)
			for n := range len(pool) + 3 {
				m := ofOp(far(op, n), 0)
				if n > 0 && n < len(pool) && slices.Contains(kinds, pool[n].Kind) {
					wantFit(t, m, pool)
					count++
				} else {
					wantUnfit(t, m, pool, 1, api.ErrCode)
				}
			}
		}
		for _, n := range []int{0, 1, 255, 256, 32767, 32768, 65535} {
			wantUnfit(t, ofOp(far(op, n), 0), nil, 1, api.ErrCode)
			wantUnfit(t, ofOp(far(op, n), 0), []api.Const{}, 1, api.ErrCode)
		}
	}
	if count != 7*2*14 {
		t.Errorf("%d that fit", count)
	}
}

func TestP73ManyConsts(t *testing.T) {
	// Lists that may not be: the kind at the place alone counts.
	pool := slices.Repeat([]api.Const{{Kind: api.ConstClass, A: -5, B: 1 << 40, Text: "\xFF"}}, 65536)
	wantFit(t, ofOp(far(ops.OpNew, 65535), 0), pool)
	wantFit(t, ofOp(far(ops.OpNew, 4096), 0), pool)
	wantUnfit(t, ofOp(far(ops.OpNew, 65535), 0), pool[:65535], 1, api.ErrCode)
	wantUnfit(t, ofOp(far(ops.OpNew, 0), 0), pool, 1, api.ErrCode)
	pool = slices.Repeat([]api.Const{{Kind: api.ConstInt, N: 1 << 40}}, 9)
	wantFit(t, ofOp(far(ops.OpLdc, 8), 0), pool)
	wantUnfit(t, ofOp(far(ops.OpLdc, 8), 0), pool[:8], 1, api.ErrCode)
}

func TestP73Room(t *testing.T) {
	for _, stack := range []int{math.MinInt64, -1 << 32, -256, -1, 0, 1, 254, 255, 256, 257, 1 << 16, 1 << 32, math.MaxInt64} {
		for _, locals := range []int{math.MinInt64, -1 << 32, -256, -1, 0, 1, 254, 255, 256, 257, 1 << 16, 1 << 32, math.MaxInt64} {
			m := api.Method{Stack: stack, Locals: locals, Code: after(3, ret)}
			if stack >= 0 && stack <= 255 && locals >= 0 && locals <= 255 {
				wantFit(t, m, nil)
			} else {
				wantUnfit(t, m, nil, 0, api.ErrCode)
			}
		}
	}
}

func TestP73HandlerPlaces(t *testing.T) {
	l := []int{math.MinInt64, -1 << 32, -1, 0, 1, 2, 3, 4, 5, 6, 7, 8, 9, 8191, 8192, 1 << 16, 1 << 32, math.MaxInt64}
	begins := []int{0, 1, 3, 6}
	good := 0
	for _, from := range l {
		for _, to := range l {
			for _, at := range l {
				m := handled(api.Handler{From: from, To: to, At: at})
				if slices.Contains(begins, from) && slices.Contains(begins, at) && (slices.Contains(begins, to) || to == 7) && to > from {
					wantFit(t, m, nil)
					good++
				} else {
					wantUnfit(t, m, nil, 0, api.ErrCode)
				}
			}
		}
	}
	if good != 4*(4+3+2+1) {
		t.Errorf("%d handlers that fit", good)
	}
}

func TestP73HandlerAtTheEnd(t *testing.T) {
	for _, b := range longest() {
		l, _, _ := code.Cut(b)
		last := l[len(l)-1].At
		m := api.Method{Code: b, Handlers: []api.Handler{{From: last, To: 8192, At: last}}}
		wantFit(t, m, nil)
		m.Handlers = []api.Handler{{From: 0, To: 8192, At: 0}, {From: 0, To: last, At: last}}
		wantFit(t, m, nil)
		for _, h := range []api.Handler{{From: 0, To: 8193}, {From: 0, To: last, At: 8192}, {From: 8192, To: 8192}, {From: last, To: last}, {From: 8192, To: 8193}, {From: last, To: 0}} {
			m.Handlers = []api.Handler{h}
			wantUnfit(t, m, nil, 0, api.ErrCode)
		}
	}
}

func TestP73HandlerClass(t *testing.T) {
	for first := range 7 {
		pool := someConsts(first)
		for _, class := range []int{math.MinInt64, -1 << 32, -4, -1, 0, 1, 2, 3, 4, 5, 6, 7, 8, 9, 10, 11, 12, 13, 14, 15, 16, 17, 18, 19, 1 << 16, 1<<32 + 4, math.MaxInt64} {
			m := handled(api.Handler{To: 7, Class: class})
			if class == 0 || class == 4 || class == 14 {
				wantFit(t, m, pool)
			} else {
				wantUnfit(t, m, pool, 0, api.ErrCode)
			}
			if class != 0 {
				wantUnfit(t, m, nil, 0, api.ErrCode)
			}
		}
		wantUnfit(t, handled(api.Handler{To: 7, Class: 4}), pool[:4], 0, api.ErrCode)
		wantFit(t, handled(api.Handler{To: 7, Class: 4}), pool[:5])
	}
}

func TestP73HowManyHandlers(t *testing.T) {
	for count := range 259 {
		l := slices.Repeat([]api.Handler{{To: 7}}, count)
		if count <= 256 {
			wantFit(t, handled(l...), nil)
		} else {
			wantUnfit(t, handled(l...), nil, 0, api.ErrCode)
		}
	}
	wantUnfit(t, handled(slices.Repeat([]api.Handler{{To: 7}}, 1<<20)...), nil, 0, api.ErrCode)
	// Each of them is looked at.
	for i := range 256 {
		l := slices.Repeat([]api.Handler{{From: 1, To: 6, At: 6}}, 256)
		l[i].To = 1
		wantUnfit(t, handled(l...), nil, 0, api.ErrCode)
	}
}

func TestP73WhichFirst(t *testing.T) {
	pool := someConsts(0)
	bad := []api.Handler{{From: -1}}
	b := after(2, far(ops.OpNew, 4), local(ops.OpIload, 3), far(ops.OpLdc, 4), local(ops.OpLstore, 9), ret)
	// At 5 a local, at 7 a constant, at 10 two locals.
	for locals, at := range map[int]int{-1: 5, 0: 5, 3: 5, 4: 7, 10: 7, 11: 7, 255: 7, 256: 7} {
		for _, m := range []api.Method{{}, {Stack: -1}, {Stack: 256, Handlers: bad}} {
			m.Code, m.Locals = b, locals
			wantUnfit(t, m, pool, at, api.ErrCode)
			wantUnfit(t, m, pool[:4], 2, api.ErrCode)
		}
	}
	b[9] = 3
	for locals, at := range map[int]int{3: 5, 4: 10, 9: 10, 10: 10, 256: 0, 11: 0} {
		wantUnfit(t, api.Method{Code: b, Locals: locals, Handlers: bad}, pool, at, api.ErrCode)
	}
	wantFit(t, api.Method{Code: b, Locals: 11}, pool)
	// What is never reached is looked at, too.
	wantUnfit(t, api.Method{Code: []byte{86, 5, 0, 86}}, nil, 1, api.ErrCode)
	wantUnfit(t, api.Method{Code: []byte{86, 3, 0, 9, 86}}, nil, 1, api.ErrCode)
}

func TestP73OtherFields(t *testing.T) {
	// What a method is called, what it takes and answers, and whether it is static or abstract, count for nothing.
	m := handled(api.Handler{To: 7})
	m.Static, m.Abstract, m.Name = true, true, "1 \xFF"
	m.Proto = api.Proto{Ret: api.Type{Kind: 99}, Args: make([]api.Type, 300)}
	wantFit(t, m, nil)
	wantUnfit(t, api.Method{Abstract: true}, nil, 0, api.ErrCode)
}

func TestP73Mixed(t *testing.T) {
	d := &dice{state: 12}
	good, astray, handlers := 0, 0, 0
	for range 20000 {
		m := api.Method{Code: mixed(d, d.roll(9)), Stack: d.roll(258) - 1, Locals: d.roll(12)}
		l, _, _ := code.Cut(m.Code)
		pool := make([]api.Const, d.roll(11))
		for i := range pool {
			pool[i].Kind = d.roll(7)
		}
		for i := range l {
			// Most of the instructions that name a constant name one that fits, if there is one.
			kinds := kindsOf(l[i].Op)
			for j := range pool {
				if slices.Contains(kinds, pool[j].Kind) && d.roll(4) > 0 {
					m.Code[l[i].At+2] = byte(j)
				}
			}
		}
		begin := func() int { return l[d.roll(len(l))].At + d.roll(20)/19 }
		for range d.roll(3) {
			h := api.Handler{From: begin(), To: begin(), At: begin(), Class: d.roll(30) / 20}
			if d.roll(2) > 0 {
				h.To = len(m.Code)
			}
			m.Handlers = append(m.Handlers, h)
		}
		at, e := wantCheck(t, m, pool)
		switch {
		case e != api.OK && at > 0:
			astray++
		case e != api.OK:
			handlers++
		default:
			good++
		}
	}
	if good < 1000 || astray < 1000 || handlers < 1000 {
		t.Errorf("%d that fit, %d and %d that do not", good, astray, handlers)
	}
}

// wantCovers holds Covers against the chapter's words.
func wantCovers(t *testing.T, m api.Method, at int) {
	t.Helper()
	var want []int
	for i, h := range m.Handlers {
		if at >= h.From && at < h.To {
			want = append(want, i)
		}
	}
	if l := code.Covers(m, at); !slices.Equal(l, want) {
		t.Errorf("Covers(%s, %d): %v; want %v", show(m.Handlers), at, l, want)
	}
}

func TestP73Covers(t *testing.T) {
	m := handled(api.Handler{From: 1, To: 6, At: 6}, api.Handler{From: 0, To: 7}, api.Handler{From: 3, To: 6, At: 3}, api.Handler{From: 6, To: 7, At: 1}, api.Handler{From: 1, To: 6, At: 6})
	for at, want := range [][]int{{1}, {0, 1, 4}, {0, 1, 4}, {0, 1, 2, 4}, {0, 1, 2, 4}, {0, 1, 2, 4}, {1, 3}, nil, nil} {
		if l := code.Covers(m, at); !slices.Equal(l, want) {
			t.Errorf("Covers at %d: %v; want %v", at, l, want)
		}
	}
	for _, at := range []int{math.MinInt64, -8, -1, 7, 8, 8192, 1 << 32, math.MaxInt64} {
		if l := code.Covers(m, at); len(l) != 0 {
			t.Errorf("Covers at %d: %v", at, l)
		}
	}
	for at := range 9 {
		if l := code.Covers(api.Method{Code: make([]byte, 9)}, at); len(l) != 0 {
			t.Errorf("Covers at %d without handlers: %v", at, l)
		}
	}
}

func TestP73CoversOthers(t *testing.T) {
	// Handlers that may not be: From and To alone count, as they stand.
	edge := []int{math.MinInt64, math.MinInt64 + 1, -1 << 32, -1, 0, 1, 2, 4, 8192, 1 << 32, math.MaxInt64 - 1, math.MaxInt64}
	var m api.Method
	for _, from := range edge {
		for _, to := range edge {
			m.Handlers = append(m.Handlers, api.Handler{From: from, To: to, At: -3, Class: -9})
		}
	}
	for _, at := range append([]int{3, 5, -2, 8191, 8193}, edge...) {
		wantCovers(t, m, at)
	}
	m.Handlers = slices.Repeat(m.Handlers, 9)
	wantCovers(t, m, 1)
	d := &dice{state: 4}
	for range 300 {
		m := handled()
		for range d.roll(6) {
			m.Handlers = append(m.Handlers, api.Handler{From: d.roll(12) - 2, To: d.roll(12) - 2})
		}
		for at := -3; at < 12; at++ {
			wantCovers(t, m, at)
		}
	}
}

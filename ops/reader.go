package ops

import (
	"warpbeam/api"
	"warpbeam/leb"
)

// How many bytes the numbers of an instruction have.
const (
	localSize = 1 // a local, and what is added to one
	wideSize  = 2 // a number, a constant's place, how far a place is, how many places a switch has
	intSize   = 4 // a table's first number, a key
)

// reader takes numbers off the bytes behind an instruction's first one. Once they have ended too early it reads nothing but zeros.
type reader struct {
	row   []byte // what is left
	at    int    // where the instruction begins
	ended bool
}

// take takes a number in one of leb's ways. That gets no more than it may need: it copies what stands behind the number.
func (r *reader) take(way func([]byte) (int, []byte, api.Errno)) int {
	row := r.row[:min(intSize, len(r.row))]
	n, behind, e := way(row)
	if e != api.OK {
		r.ended = true
	}
	if r.ended {
		return 0
	}
	r.row = r.row[len(row)-len(behind):]
	return n
}

// plain takes a number from 0 on.
func (r *reader) plain(size int) int {
	return r.take(func(b []byte) (int, []byte, api.Errno) { return leb.TakeBig(b, size) })
}

// signed takes a number with a sign.
func (r *reader) signed(size int) int {
	return r.take(func(b []byte) (int, []byte, api.Errno) { return leb.TakeBigS(b, size) })
}

// place takes a place of the code, which is told by how far it is behind the instruction.
func (r *reader) place() int {
	return r.at + r.signed(wideSize)
}

// ins takes what stands behind the first byte of an instruction.
func (r *reader) ins(op int) api.Ins {
	x := api.Ins{At: r.at, Op: op}
	switch Shape(op) {
	case ShapeLocal:
		x.N = r.plain(localSize)
	case ShapeNumber:
		x.N = r.signed(wideSize)
	case ShapePool:
		x.N = r.plain(wideSize)
	case ShapeJump:
		x.To = []int{r.place()}
	case ShapeCount:
		x.N, x.M = r.plain(localSize), r.signed(localSize)
	case ShapeTable:
		x.To, x.N = []int{r.place()}, r.signed(intSize)
		r.others(func() { x.To = append(x.To, r.place()) })
	case ShapeKeys:
		x.To = []int{r.place()}
		r.others(func() {
			x.Keys = append(x.Keys, r.signed(intSize))
			x.To = append(x.To, r.place())
		})
	}
	return x
}

// others takes how many others a switch has, and each of them; none any more, when the bytes have ended: they may say more than there are.
func (r *reader) others(one func()) {
	for count := r.plain(wideSize); count > 0 && !r.ended; count-- {
		one()
	}
}

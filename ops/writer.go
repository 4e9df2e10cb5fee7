package ops

import (
	"warpbeam/api"
	"warpbeam/leb"
)

// writer puts numbers at the end of an instruction's bytes.
type writer struct {
	row []byte
	at  int // where the instruction begins
}

// put puts a number that has room in so many bytes.
func (w *writer) put(n, size int) {
	b, _ := leb.Big(n, size)
	w.row = append(w.row, b...)
}

// place puts how far a place is behind the instruction.
func (w *writer) place(to int) {
	w.put(to-w.at, wideSize)
}

// ins puts an instruction that may be.
func (w *writer) ins(x api.Ins) {
	w.row = append(w.row, byte(x.Op))
	switch Shape(x.Op) {
	case ShapeLocal:
		w.put(x.N, localSize)
	case ShapeNumber, ShapePool:
		w.put(x.N, wideSize)
	case ShapeJump:
		w.place(x.To[0])
	case ShapeCount:
		w.put(x.N, localSize)
		w.put(x.M, localSize)
	case ShapeTable:
		w.place(x.To[0])
		w.put(x.N, intSize)
		w.put(len(x.To)-1, wideSize)
		for _, to := range x.To[1:] {
			w.place(to)
		}
	case ShapeKeys:
		w.place(x.To[0])
		w.put(len(x.Keys), wideSize)
		for i, key := range x.Keys {
			w.put(key, intSize)
			w.place(x.To[1+i])
		}
	}
}

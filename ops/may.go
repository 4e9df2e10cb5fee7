package ops

import (
	"math"

	"warpbeam/api"
)

// mostOthers is how many places a switch may have beside its default.
const mostOthers = 1000

// span is from one number up to another one, both of them in it.
type span struct{ least, most int }

// has tells whether a number is in a span.
func (s span) has(n int) bool {
	return n >= s.least && n <= s.most
}

// room is what the fields of a shape may be: N, M, and how many To has. What a shape does not name is from 0 to 0.
type room struct{ n, m, to span }

// rooms are the rooms of all shapes, each at its number.
func rooms() [ShapeKeys + 1]room {
	return [ShapeKeys + 1]room{
		ShapeNone:   {},
		ShapeLocal:  {n: span{0, math.MaxUint8}},
		ShapeNumber: {n: span{math.MinInt16, math.MaxInt16}},
		ShapePool:   {n: span{0, math.MaxUint16}},
		ShapeJump:   {to: span{1, 1}},
		ShapeCount:  {n: span{0, math.MaxUint8}, m: span{math.MinInt8, math.MaxInt8}},
		ShapeTable:  {n: ints(), to: span{2, 1 + mostOthers}},
		ShapeKeys:   {to: span{1, 1 + mostOthers}},
	}
}

// ints are all that an int may be.
func ints() span {
	return span{math.MinInt32, math.MaxInt32}
}

// places are all places of code. None is farther from another one than two bytes can tell.
func places() span {
	return span{0, api.MaxCode - 1}
}

// mayBe tells whether an instruction may be.
func mayBe(x api.Ins) bool {
	if _, is := lineOf(x.Op); !is || !places().has(x.At) {
		return false
	}
	r := rooms()[Shape(x.Op)]
	return r.n.has(x.N) && r.m.has(x.M) && r.to.has(len(x.To)) && allPlaces(x.To) && numbersMay(x) && keysMay(x)
}

// allPlaces tells whether all of a list are places of code.
func allPlaces(l []int) bool {
	for _, at := range l {
		if !places().has(at) {
			return false
		}
	}
	return true
}

// numbersMay tells whether the greatest number of a table is an int. (That the least one is, its room has told.)
func numbersMay(x api.Ins) bool {
	return Shape(x.Op) != ShapeTable || ints().has(x.N+len(x.To)-2)
}

// keysMay tells whether there is a key for each place but the default, and whether they are ints that rise; all shapes but one have none.
func keysMay(x api.Ins) bool {
	if Shape(x.Op) != ShapeKeys {
		return len(x.Keys) == 0
	}
	if len(x.Keys) != len(x.To)-1 {
		return false
	}
	for i, key := range x.Keys {
		if !ints().has(key) || i > 0 && key <= x.Keys[i-1] {
			return false
		}
	}
	return true
}

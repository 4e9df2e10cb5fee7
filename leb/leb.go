// Package leb writes numbers as bytes, in three ways, and takes them off the beginning of bytes again.
package leb

import (
	"bytes"

	"warpbeam/api"
)

// A byte of a short number has seven of the number's bits; each but the last one has more, too.
const (
	digitBits = 7
	more      = 1 << digitBits
	digitMask = more - 1
)

// How many bytes a short number has at most: from 0 on, and with a sign.
const (
	mostU = 8
	mostS = 10
)

// How many bytes a number of a given size has at most. TakeBig has one fewer: eight bytes from 0 on may be more than an int holds.
const (
	mostBigS = 8
	mostBig  = 7
)

// way is how bytes are meant: short or in so many, from 0 on (U) or with a sign (S).
type way int

const (
	shortU way = 1
	shortS way = 2
	bigU   way = 3
	bigS   way = 4
)

// U is the short bytes of a number from 0 on.
func U(n int) ([]byte, api.Errno) {
	if n < 0 || n > api.MaxNumber {
		return nil, api.ErrRange
	}
	return digits(n, shortU), api.OK
}

// TakeU takes a short number from 0 on off the beginning of bytes.
func TakeU(b []byte) (n int, rest []byte, e api.Errno) {
	n, rest, e = takeShort(b, mostU, shortU)
	if n > api.MaxNumber {
		return 0, nil, api.ErrSyntax
	}
	return n, rest, e
}

// S is the short bytes of a number with a sign.
func S(n int) []byte {
	return digits(n, shortS)
}

// TakeS takes a short number with a sign off the beginning of bytes.
func TakeS(b []byte) (n int, rest []byte, e api.Errno) {
	return takeShort(b, mostS, shortS)
}

// Big is a number in so many bytes, the highest one first.
func Big(n, size int) ([]byte, api.Errno) {
	if size < 1 || size > mostBigS {
		return nil, api.ErrArg
	}
	if !fits(n, size) {
		return nil, api.ErrRange
	}
	var b []byte
	at := size
next:
	at--
	b = append(b, byte(n>>(8*at)))
	if at > 0 {
		goto next
	}
	return b, api.OK
}

// TakeBig takes a number from 0 on, of so many bytes, off the beginning of bytes.
func TakeBig(b []byte, size int) (n int, rest []byte, e api.Errno) {
	return takeBig(b, size, mostBig, bigU)
}

// TakeBigS takes a number with a sign, of so many bytes, off the beginning of bytes.
func TakeBigS(b []byte, size int) (n int, rest []byte, e api.Errno) {
	return takeBig(b, size, mostBigS, bigS)
}

// above is what the bits above a number's highest byte are meant to be, for ever: all 0, or all 1 (-1).
func above(top byte, w way) int {
	switch w {
	case shortS:
		top <<= 1 // a digit's sign is its bit 6: brought to where a whole byte has it
		fallthrough
	case bigS:
		return -int(top >> 7)
	}
	return 0
}

// digits is a number's short bytes. (Without a sign n is not below 0: it would not come to an end.)
func digits(n int, w way) []byte {
	var b []byte
next:
	digit := byte(n & digitMask)
	n >>= digitBits
	// As few bytes as can be: a digit is the last one as soon as what is left is what it means without being said.
	if n == above(digit, w) {
		return append(b, digit)
	}
	b = append(b, digit|more)
	goto next
}

// span is how many bytes the short number has that b begins with.
func span(b []byte, most int) (int, api.Errno) {
	at := 0
next:
	if at == most {
		return 0, api.ErrSyntax
	}
	if at == len(b) {
		return 0, api.ErrTrunc
	}
	at++
	if b[at-1] >= more {
		goto next
	}
	return at, api.OK
}

// worth is the number that a short number's bytes tell; bits that an int has no room for are lost.
func worth(row []byte, w way) int {
	at := len(row)
	n := above(row[at-1], w)
next:
	at--
	n = n<<digitBits | int(row[at]&digitMask)
	if at > 0 {
		goto next
	}
	return n
}

// takeShort takes a short number of at most so many bytes off the beginning of b.
func takeShort(b []byte, most int, w way) (int, []byte, api.Errno) {
	count, e := span(b, most)
	if e != api.OK {
		return 0, nil, e
	}
	row := b[:count]
	n := worth(row, w)
	// There is one way to write a number: a row that is longer than need be, or has lost bits, is not it.
	if !bytes.Equal(row, digits(n, w)) {
		return 0, nil, api.ErrSyntax
	}
	return n, bytes.Clone(b[count:]), api.OK
}

// fits tells whether a number has room in so many bytes, with a sign or without one.
func fits(n, size int) bool {
	if size == mostBigS {
		return true
	}
	return n >= -1<<(8*size-1) && n < 1<<(8*size)
}

// takeBig takes a number of so many bytes off the beginning of b.
func takeBig(b []byte, size, most int, w way) (int, []byte, api.Errno) {
	if size < 1 || size > most {
		return 0, nil, api.ErrArg
	}
	if len(b) < size {
		return 0, nil, api.ErrTrunc
	}
	n := above(b[0], w)
	at := 0
next:
	n = n<<8 | int(b[at])
	at++
	if at < size {
		goto next
	}
	return n, bytes.Clone(b[size:]), api.OK
}

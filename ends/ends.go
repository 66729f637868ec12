// Package ends is layer 1: numbers and rows as bytes, and a reader that takes
// them off again. See shared/doc/01-ends.md.
package ends

import (
	"bytes"

	"carrack/api"
)

// maxRow is as many bytes as the one byte ahead of a row can count.
const maxRow = 255

// isSize says whether numbers of that many bytes are known.
func isSize(size int) bool {
	switch size {
	case 1, 2, 4, 8:
		return true
	}
	return false
}

// fits says whether n is a number of the size. A shift by all of its 64 bits
// leaves 0, so size 8 needs no case of its own.
func fits(n uint64, size int) bool {
	return n>>(8*size) == 0
}

// Put answers the bytes of n, a number of the size, the lowest first.
func Put(n uint64, size int) ([]byte, api.Errno) {
	if !isSize(size) || !fits(n, size) {
		return nil, api.ErrArg
	}
	out := make([]byte, size)
	for i := range out {
		out[i] = byte(n >> (8 * i))
	}
	return out, api.OK
}

// Row answers how many bytes b has, and they behind it.
func Row(b []byte) ([]byte, api.Errno) {
	if len(b) > maxRow {
		return nil, api.ErrLimit
	}
	out := make([]byte, 0, 1+len(b))
	out = append(out, byte(len(b)))
	return append(out, b...), api.OK
}

// Reader stands at a place in bytes of its own, and takes off what stands
// there.
type Reader struct {
	// made tells a reader of no bytes from a zero one, which no call made.
	made bool
	// left is what was not taken off yet. A reader that refuses throws it away:
	// whatever is asked for then is more than is left, so it needs no mark.
	left []byte
}

// New answers a reader at the beginning of b's bytes.
func New(b []byte) *Reader {
	return &Reader{made: true, left: bytes.Clone(b)}
}

// isNone says whether there is no reader: nil, or one that no call made.
func (r *Reader) isNone() bool {
	return r == nil || !r.made
}

// cut takes n bytes off, or refuses. The third index ends the piece's room
// where it ends itself, so that nothing reaches through it to what is left.
func (r *Reader) cut(n int) ([]byte, api.Errno) {
	if n > len(r.left) {
		r.left = nil
		return nil, api.ErrShort
	}
	piece := r.left[:n:n]
	r.left = r.left[n:]
	return piece, api.OK
}

// Take takes off a number of the size.
func (r *Reader) Take(size int) (uint64, api.Errno) {
	if r.isNone() {
		return 0, api.ErrNil
	}
	if !isSize(size) {
		return 0, api.ErrArg
	}
	piece, e := r.cut(size)
	if e != api.OK {
		return 0, e
	}
	var n uint64
	for i, b := range piece {
		n |= uint64(b) << (8 * i)
	}
	return n, api.OK
}

// Row takes off a row, and answers its bytes.
func (r *Reader) Row() ([]byte, api.Errno) {
	if r.isNone() {
		return nil, api.ErrNil
	}
	count, e := r.cut(1)
	if e != api.OK {
		return nil, e
	}
	piece, e := r.cut(int(count[0]))
	if e != api.OK {
		return nil, e
	}
	return bytes.Clone(piece), api.OK
}

// Left answers how many bytes are left.
func (r *Reader) Left() int {
	if r.isNone() {
		return 0
	}
	return len(r.left)
}

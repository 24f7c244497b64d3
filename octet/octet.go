// Package octet is layer 2: little-endian integers.
package octet

import (
	"slices"

	"punnet/api"
	"punnet/trap"
)

// Right reports whether an integer may have so many bytes.
func Right(width int) bool {
	return width >= 1 && width <= 8
}

// Fits reports whether an integer has at most so many bytes.
func Fits(v uint64, width int) bool {
	if !Right(width) {
		return false
	}
	return width == 8 || v>>(8*width) == 0
}

// Append returns bytes with an integer behind.
func Append(b []byte, width int, v uint64) []byte {
	if !Right(width) {
		return slices.Clone(b)
	}
	// The bytes get memory of their own: the spare capacity of b is the caller's.
	list := make([]byte, len(b)+width)
	copy(list, b)
	set(list[len(b):], v)
	return list
}

// Get returns the integer at an index; false: it is not all there.
func Get(b []byte, at, width int) (uint64, bool) {
	if !exists(b, at, width) {
		return 0, false
	}
	v := uint64(0)
	for i := range width {
		v |= uint64(b[at+i]) << (8 * i)
	}
	return v, true
}

// Put returns bytes with an integer at an index; false: there is no room.
func Put(b []byte, at, width int, v uint64) ([]byte, bool) {
	list := slices.Clone(b)
	if !exists(b, at, width) {
		return list, false
	}
	set(list[at:at+width], v)
	return list, true
}

func exists(b []byte, at, width int) bool {
	return Right(width) && at >= 0 && at <= len(b)-width
}

func set(b []byte, v uint64) {
	for i := range b {
		b[i] = byte(v >> (8 * i))
	}
}

// Reader reads integers and bytes, one after another.
type Reader struct {
	data []byte
	at   int
}

// Over returns a reader of bytes.
func Over(data []byte) *Reader {
	return &Reader{data: slices.Clone(data)}
}

// At returns how many bytes have been read.
func (r *Reader) At() int {
	return r.at
}

// Left returns how many bytes are left.
func (r *Reader) Left() int {
	return len(r.data) - r.at
}

// Bytes returns the next bytes; it throws ErrArg and ErrShort.
func (r *Reader) Bytes(n int) []byte {
	trap.Check(n >= 0, api.ErrArg)
	return slices.Clone(r.take(n))
}

// Int returns the next integer; it throws ErrArg and ErrShort.
func (r *Reader) Int(width int) uint64 {
	trap.Check(Right(width), api.ErrArg)
	v, _ := Get(r.take(width), 0, width)
	return v
}

// Want throws a code unless the next integer is this one.
func (r *Reader) Want(width int, v uint64, code api.Errno) {
	trap.Check(r.Int(width) == v, code)
}

func (r *Reader) take(n int) []byte {
	trap.Check(n <= r.Left(), api.ErrShort)
	r.at += n
	return r.data[r.at-n : r.at]
}

// Package dev is layer 3: a byte device of bounded size.
package dev

import (
	"bytes"
	"slices"

	"punnet/api"
)

// Device is an array of bytes.
type Device struct {
	data   []byte
	reads  int
	writes int
}

// New returns a device of zero bytes; ErrRange.
func New(size int) (*Device, api.Errno) {
	if !right(size) {
		return nil, api.ErrRange
	}
	return &Device{data: make([]byte, size)}, api.OK
}

func right(size int) bool {
	return size >= 0 && size <= api.MaxCap
}

// Cap returns the number of bytes.
func (d *Device) Cap() int {
	return len(d.data)
}

func (d *Device) exists(at, n int) bool {
	return n >= 0 && at >= 0 && at <= len(d.data) && n <= len(d.data)-at
}

// Read returns the bytes of a range; ErrRange.
func (d *Device) Read(at, n int) ([]byte, api.Errno) {
	if !d.exists(at, n) {
		return nil, api.ErrRange
	}
	d.reads += n
	return slices.Clone(d.data[at : at+n]), api.OK
}

// Write replaces the bytes of a range; ErrRange.
func (d *Device) Write(at int, b []byte) api.Errno {
	if !d.exists(at, len(b)) {
		return api.ErrRange
	}
	d.writes += copy(d.data[at:], b)
	return api.OK
}

// Move replaces the bytes of a range by those of another one, as they were; ErrRange.
func (d *Device) Move(from, to, n int) api.Errno {
	if !d.exists(from, n) || !d.exists(to, n) {
		return api.ErrRange
	}
	copy(d.data[to:to+n], d.data[from:from+n])
	d.reads += n
	d.writes += n
	return api.OK
}

// Wipe sets the bytes of a range to zero; ErrRange.
func (d *Device) Wipe(at, n int) api.Errno {
	if !d.exists(at, n) {
		return api.ErrRange
	}
	clear(d.data[at : at+n])
	d.writes += n
	return api.OK
}

// Resize cuts bytes off, or adds zero bytes; ErrRange.
func (d *Device) Resize(size int) api.Errno {
	if !right(size) {
		return api.ErrRange
	}
	data := make([]byte, size)
	copy(data, d.data)
	d.data = data
	return api.OK
}

// Reads returns how many bytes have been read.
func (d *Device) Reads() int {
	return d.reads
}

// Writes returns how many bytes have been written.
func (d *Device) Writes() int {
	return d.writes
}

// Find returns the first offset from one on at which bytes occur; false: there is none.
func (d *Device) Find(from int, b []byte) (int, bool) {
	from = max(from, 0)
	if from > len(d.data) {
		return 0, false
	}
	i := bytes.Index(d.data[from:], b)
	if i < 0 {
		return 0, false
	}
	return from + i, true
}

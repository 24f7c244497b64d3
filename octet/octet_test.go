package octet_test

import (
	"bytes"
	"encoding/binary"
	"math"
	"testing"

	"punnet/api"
	. "punnet/octet"
	"punnet/trap"
)

func TestP2_1Right(t *testing.T) {
	for width := -3; width <= 12; width++ {
		if Right(width) != (width >= 1 && width <= 8) {
			t.Errorf("Right(%d)", width)
		}
	}
}

func TestP2_1Fits(t *testing.T) {
	for width := 1; width <= 7; width++ {
		edge := uint64(1) << (8 * width)
		if !Fits(edge-1, width) || !Fits(0, width) || Fits(edge, width) || Fits(math.MaxUint64, width) {
			t.Errorf("Fits of width %d", width)
		}
	}
	if !Fits(math.MaxUint64, 8) || Fits(0, 0) || Fits(0, 9) || Fits(0, -1) || Fits(0, math.MinInt) || Fits(0, math.MaxInt) {
		t.Error("Fits at the edges")
	}
}

func TestP2_1Append(t *testing.T) {
	if b := Append(nil, 2, 0x1234); !bytes.Equal(b, []byte{0x34, 0x12}) {
		t.Errorf("Append: % x", b)
	}
	var want [8]byte
	v := uint64(0xfedcba9876543210)
	binary.LittleEndian.PutUint64(want[:], v)
	for width := 1; width <= 8; width++ {
		b := Append([]byte("ab"), width, v)
		if !bytes.Equal(b, append([]byte("ab"), want[:width]...)) {
			t.Errorf("width %d: % x", width, b)
		}
	}
	for _, width := range []int{0, -1, 9, math.MaxInt, math.MinInt} {
		if b := Append([]byte("ab"), width, v); string(b) != "ab" {
			t.Errorf("width %d: % x", width, b)
		}
	}
	spare := append(make([]byte, 0, 8), 1, 2)
	b := Append(spare, 2, 0x0403)
	b[0] = 9
	if spare[0] != 1 || spare[:4][2] != 0 {
		t.Errorf("Append changed its argument: %v", spare[:4])
	}
	same := Append(spare, 0, 0)
	same[0] = 9
	if spare[0] != 1 {
		t.Error("Append returned its argument's memory")
	}
}

func TestP2_1GetPut(t *testing.T) {
	data := []byte{1, 2, 3, 4, 5, 6, 7, 8, 9, 10}
	for width := -1; width <= 10; width++ {
		for at := -2; at <= 12; at++ {
			is := width >= 1 && width <= 8 && at >= 0 && at+width <= len(data)
			v, ok := Get(data, at, width)
			want := uint64(0)
			for i := 0; is && i < width; i++ {
				want += uint64(data[at+i]) << (8 * i)
			}
			if ok != is || v != want {
				t.Errorf("Get(%d, %d) = %x, %v", at, width, v, ok)
			}
			put, ok := Put(data, at, width, 0xf1f2f3f4f5f6f7f8)
			wanted := bytes.Clone(data)
			for i := 0; is && i < width; i++ {
				wanted[at+i] = byte(0xf8 - i)
			}
			if ok != is || !bytes.Equal(put, wanted) {
				t.Errorf("Put(%d, %d) = % x, %v", at, width, put, ok)
			}
			put[0] = 77
			if data[0] != 1 {
				t.Fatal("Put returned its argument's memory")
			}
		}
	}
	for _, at := range []int{math.MaxInt, math.MinInt, math.MaxInt - 3} {
		if _, ok := Get(data, at, 4); ok {
			t.Errorf("Get(%d)", at)
		}
	}
}

func TestP2_2(t *testing.T) {
	data := []byte{1, 2, 3, 4, 5, 6, 7, 8, 9}
	r := Over(data)
	data[3] = 99
	if r.At() != 0 || r.Left() != 9 {
		t.Errorf("at first: %d, %d", r.At(), r.Left())
	}
	b := r.Bytes(2)
	if !bytes.Equal(b, []byte{1, 2}) || r.At() != 2 || r.Left() != 7 {
		t.Errorf("Bytes: %v, %d, %d", b, r.At(), r.Left())
	}
	if b := r.Bytes(0); len(b) != 0 || r.At() != 2 {
		t.Errorf("Bytes(0): %v", b)
	}
	if v := r.Int(2); v != 0x0403 || r.At() != 4 {
		t.Errorf("Int(2): %x, %d", v, r.At())
	}
	throws := []struct {
		f    func()
		code api.Errno
	}{
		{func() { r.Bytes(-1) }, api.ErrArg},
		{func() { r.Bytes(6) }, api.ErrShort},
		{func() { r.Bytes(math.MaxInt) }, api.ErrShort},
		{func() { r.Int(0) }, api.ErrArg},
		{func() { r.Int(9) }, api.ErrArg},
		{func() { r.Int(6) }, api.ErrShort},
		{func() { r.Want(9, 1, api.ErrMagic) }, api.ErrArg},
		{func() { r.Want(8, 1, api.ErrMagic) }, api.ErrShort},
	}
	for i, c := range throws {
		if e := trap.Catch(c.f); e != c.code || r.At() != 4 || r.Left() != 5 {
			t.Errorf("case %d: %d, %d, %d", i, e, r.At(), r.Left())
		}
	}
	if e := trap.Catch(func() { r.Want(1, 5, api.ErrMagic) }); e != api.OK || r.At() != 5 {
		t.Errorf("Want: %d, %d", e, r.At())
	}
	if e := trap.Catch(func() { r.Want(2, 5, api.ErrMagic) }); e != api.ErrMagic || r.At() != 7 {
		t.Errorf("Want of another: %d, %d", e, r.At())
	}
	if v := r.Int(2); v != 0x0908 || r.Left() != 0 {
		t.Errorf("the last: %x", v)
	}
	if e := trap.Catch(func() { r.Int(1) }); e != api.ErrShort {
		t.Errorf("behind the last: %d", e)
	}
}

func TestP2_2NewMemory(t *testing.T) {
	r := Over([]byte{1, 2, 3})
	b := r.Bytes(2)
	b = append(b, 77)
	b[0] = 66
	if v := r.Int(1); v != 3 {
		t.Errorf("what Bytes returned is the reader's: %d", v)
	}
}

func TestP2_3(t *testing.T) {
	data := bytes.Repeat([]byte{0xaa}, 12)
	for width := 1; width <= 8; width++ {
		for at := 0; at+width <= len(data); at++ {
			v := uint64(0x1122334455667788)
			b, _ := Put(data, at, width, v)
			got, _ := Get(b, at, width)
			if width < 8 {
				v %= 1 << (8 * width)
			}
			if got != v {
				t.Errorf("Get of Put: %x", got)
			}
			for i := range b {
				if (i < at || i >= at+width) && b[i] != 0xaa {
					t.Errorf("another byte changed: % x", b)
				}
			}
		}
	}
}

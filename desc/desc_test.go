package desc_test

import (
	"bytes"
	"encoding/hex"
	"math"
	"math/rand"
	"strings"
	"testing"

	"punnet/api"
	. "punnet/desc"
	"punnet/octet"
	"punnet/trap"
)

func TestP28_1(t *testing.T) {
	if (Descriptor{}).Len() != 16 || (Descriptor{Wide: true}).Len() != 24 {
		t.Error("Len")
	}
	cases := []struct {
		packed, size int
		want         api.Errno
	}{
		{0, 0, api.OK}, {2 * api.MaxSize, api.MaxSize, api.OK}, {2*api.MaxSize + 1, 0, api.ErrSize}, {0, api.MaxSize + 1, api.ErrSize},
		{-1, 0, api.ErrSize}, {0, -1, api.ErrSize}, {math.MinInt, math.MinInt, api.ErrSize}, {math.MaxInt, 0, api.ErrSize}, {0, math.MaxInt, api.ErrSize},
	}
	for _, c := range cases {
		for _, wide := range []bool{false, true} {
			d := Descriptor{Packed: c.packed, Size: c.size, Wide: wide}
			b, e := d.Encode()
			if d.Check() != c.want || e != c.want || e != api.OK && b != nil || e == api.OK && len(b) != d.Len() {
				t.Errorf("%+v: %d, %d", d, d.Check(), e)
			}
		}
	}
	records := []struct {
		d    Descriptor
		want string
	}{
		{Descriptor{}, "504b0708 00000000 00000000 00000000"},
		{Descriptor{CRC: 0x12345678, Packed: 0x010203, Size: 0x0405}, "504b0708 78563412 03020100 05040000"},
		{Descriptor{CRC: 0x12345678, Packed: 0x010203, Size: 0x0405, Wide: true}, "504b0708 78563412 0302010000000000 0504000000000000"},
	}
	for _, c := range records {
		want, _ := hex.DecodeString(strings.ReplaceAll(c.want, " ", ""))
		if b, e := c.d.Encode(); !bytes.Equal(b, want) || e != api.OK {
			t.Errorf("%+v: %x, %d", c.d, b, e)
		}
	}
}

func TestP28_2(t *testing.T) {
	for _, wide := range []bool{false, true} {
		d := Descriptor{CRC: math.MaxUint32, Packed: 2 * api.MaxSize, Size: 5, Wide: wide}
		b, _ := d.Encode()
		for _, behind := range []string{"", "more than that, and more"} {
			data := append([]byte("PK\x07"+string(b)), behind...)
			if got, at, e := Parse(data, 3, wide); got != d || at != 3+len(b) || e != api.OK {
				t.Errorf("Parse: %+v, %d, %d", got, at, e)
			}
			r := octet.Over(data)
			r.Bytes(3)
			if got := Read(r, wide); got != d || r.At() != 3+len(b) {
				t.Errorf("Read: %+v, %d", got, r.At())
			}
		}
		for n := range b {
			if got, at, e := Parse(b[:n], 0, wide); got != (Descriptor{}) || at != 0 || e == api.OK {
				t.Errorf("Parse of %d bytes: %+v, %d, %d", n, got, at, e)
			}
			if e := trap.Catch(func() { Read(octet.Over(b[:n]), wide) }); e == api.OK {
				t.Errorf("Read of %d bytes", n)
			}
		}
		for _, at := range []int{-1, 1, len(b), len(b) + 1, math.MinInt, math.MaxInt} {
			if got, end, e := Parse(b, at, wide); got != (Descriptor{}) || end != 0 || e == api.OK {
				t.Errorf("Parse at %d: %+v, %d, %d", at, got, end, e)
			}
		}
		for i := range b {
			for k := range 8 {
				bad := bytes.Clone(b)
				bad[i] ^= 1 << k
				got, at, e := Parse(bad, 0, wide)
				if e == api.OK {
					if again, e := got.Encode(); !bytes.Equal(again, bad) || e != api.OK || at != len(b) {
						t.Errorf("% x is read as %+v", bad, got)
					}
				} else if got != (Descriptor{}) || at != 0 {
					t.Errorf("with the error %d: %+v, %d", e, got, at)
				}
				if i < 4 && e == api.OK {
					t.Errorf("% x is read", bad)
				}
			}
		}
	}
	// Sizes that are too great, also for a number with a sign.
	for _, b := range []byte{0x80, 0xff, 1} {
		d := Descriptor{Wide: true}
		data, _ := d.Encode()
		data[15] = b
		if _, _, e := Parse(data, 0, true); e == api.OK {
			t.Errorf("% x is read", data)
		}
	}
}

func TestP28_3(t *testing.T) {
	rnd := rand.New(rand.NewSource(28))
	for range 200 {
		d := Descriptor{CRC: rnd.Uint32(), Packed: rnd.Intn(2*api.MaxSize + 1), Size: rnd.Intn(api.MaxSize + 1), Wide: rnd.Intn(2) == 0}
		b, _ := d.Encode()
		if got, at, e := Parse(b, 0, d.Wide); got != d || at != len(b) || e != api.OK {
			t.Errorf("%+v: %+v, %d, %d", d, got, at, e)
		}
	}
}

package central_test

import (
	"bytes"
	"encoding/hex"
	"math"
	"math/rand"
	"strings"
	"testing"

	"punnet/api"
	. "punnet/central"
	"punnet/local"
	"punnet/octet"
	"punnet/trap"
)

func header(change func(h *Header)) Header {
	h := Header{At: 0x0a0b0c0d}
	h.Name, h.Method, h.CRC, h.Packed, h.Size = "a", 8, 0x12345678, 0x0102, 0x030405
	h.Time = api.Time{Year: 2024, Month: 5, Day: 6, Hour: 7, Minute: 8, Sec: 10}
	if change != nil {
		change(&h)
	}
	return h
}

func all() []Header {
	var list []Header
	for _, name := range []string{"a", "dir/é.txt", strings.Repeat("x", 255)} {
		for _, wide := range []bool{false, true} {
			for _, later := range []bool{false, true} {
				for _, at := range []int{0, 1, local.Much - 1} {
					list = append(list, header(func(h *Header) { h.Name, h.Wide, h.Later, h.At = name, wide, later, at }))
				}
			}
		}
	}
	return append(list, header(func(h *Header) { h.Method, h.Packed = 0, h.Size }))
}

func TestP29_1Check(t *testing.T) {
	for _, h := range all() {
		if h.Check() != api.OK {
			t.Errorf("%+v: %d", h, h.Check())
		}
	}
	cases := []struct {
		change func(h *Header)
		want   api.Errno
	}{
		{func(h *Header) { h.Name, h.At = "", -1 }, api.ErrName}, {func(h *Header) { h.Time, h.At = api.Time{}, -1 }, api.ErrTime},
		{func(h *Header) { h.Method, h.At = 7, -1 }, api.ErrMethod}, {func(h *Header) { h.Size = -1 }, api.ErrSize},
		{func(h *Header) { h.At = -1 }, api.ErrSize}, {func(h *Header) { h.At = local.Much }, api.ErrSize}, {func(h *Header) { h.At, h.Wide = local.Much, true }, api.ErrSize},
		{func(h *Header) { h.At = math.MaxInt }, api.ErrSize}, {func(h *Header) { h.At = math.MinInt }, api.ErrSize}, {func(h *Header) { h.At = local.Much - 1 }, api.OK},
	}
	for i, c := range cases {
		h := header(c.change)
		b, e := h.Encode()
		if h.Check() != c.want || e != c.want || (b == nil) != (e != api.OK) {
			t.Errorf("case %d: %d, %d", i, h.Check(), e)
		}
	}
}

func TestP29_1Encode(t *testing.T) {
	const zeros = "0000 0000 0000 0000a481 "
	cases := []struct {
		h    Header
		want string
	}{
		{header(nil), "504b0102 1403 1400 0000 0800 0539 a658 78563412 02010000 05040300 0100 0000 " + zeros + "0d0c0b0a 61"},
		{header(func(h *Header) { h.Later = true }), "504b0102 1403 1400 0800 0800 0539 a658 78563412 02010000 05040300 0100 0000 " + zeros + "0d0c0b0a 61"},
		{header(func(h *Header) { h.Wide = true }), "504b0102 1403 2d00 0000 0800 0539 a658 78563412 ffffffff ffffffff 0100 1c00 " + zeros + "ffffffff 61 0100 1800 0504030000000000 0201000000000000 0d0c0b0a00000000"},
		{header(func(h *Header) { h.Wide, h.Later, h.Name = true, true, "é" }), "504b0102 1403 2d00 0808 0800 0539 a658 78563412 ffffffff ffffffff 0200 1c00 " + zeros + "ffffffff c3a9 0100 1800 0504030000000000 0201000000000000 0d0c0b0a00000000"},
	}
	for i, c := range cases {
		b, e := c.h.Encode()
		want, err := hex.DecodeString(strings.ReplaceAll(c.want, " ", ""))
		if err != nil || e != api.OK || !bytes.Equal(b, want) {
			t.Errorf("case %d: %x, %d, %v", i, b, e, err)
		}
	}
	if b, _ := header(nil).Encode(); len(b) != 47 {
		t.Errorf("%d bytes", len(b))
	}
}

func TestP29_2(t *testing.T) {
	for _, h := range all() {
		b, _ := h.Encode()
		for _, behind := range []string{"", "more"} {
			data := append([]byte("PK\x01"+string(b)), behind...)
			if got, at, e := Parse(data, 3); got != h || at != 3+len(b) || e != api.OK {
				t.Errorf("Parse of %+v: %+v, %d, %d", h, got, at, e)
			}
			r := octet.Over(data)
			r.Bytes(3)
			if got := Read(r); got != h || r.At() != 3+len(b) {
				t.Errorf("Read of %+v: %+v, %d", h, got, r.At())
			}
		}
		for n := range b {
			if got, at, e := Parse(b[:n], 0); got != (Header{}) || at != 0 || e == api.OK {
				t.Errorf("Parse of %d bytes: %+v, %d, %d", n, got, at, e)
			}
			if e := trap.Catch(func() { Read(octet.Over(b[:n])) }); e == api.OK {
				t.Errorf("Read of %d bytes", n)
			}
		}
		for _, at := range []int{-1, 1, len(b), len(b) + 1, math.MinInt, math.MaxInt} {
			if got, end, e := Parse(b, at); got != (Header{}) || end != 0 || e == api.OK {
				t.Errorf("Parse at %d: %+v, %d, %d", at, got, end, e)
			}
		}
	}
}

func TestP29_2Strict(t *testing.T) {
	refused := 0
	for _, h := range all() {
		b, _ := h.Encode()
		for i := range b {
			for k := range 9 {
				bad := bytes.Clone(b)
				bad[i] ^= byte(max(1<<k, 1) % 257)
				got, at, e := Parse(bad, 0)
				if e != api.OK {
					refused++
					if got != (Header{}) || at != 0 {
						t.Errorf("with the error %d: %+v, %d", e, got, at)
					}
					continue
				}
				if again, e := got.Encode(); e != api.OK || !bytes.Equal(again, bad[:at]) {
					t.Fatalf("% x is read as %+v", bad, got)
				}
			}
		}
	}
	if refused < 1000 {
		t.Errorf("only %d changed records are refused", refused)
	}
}

func TestP29_3(t *testing.T) {
	rnd := rand.New(rand.NewSource(29))
	for range 300 {
		h := header(func(h *Header) {
			h.Name = strings.Repeat("n", 1+rnd.Intn(255))
			h.CRC, h.Size, h.Packed, h.At = rnd.Uint32(), rnd.Intn(api.MaxSize+1), rnd.Intn(2*api.MaxSize+1), rnd.Intn(local.Much)
			h.Wide, h.Later = rnd.Intn(2) == 0, rnd.Intn(2) == 0
		})
		b, _ := h.Encode()
		if got, at, e := Parse(b, 0); got != h || at != len(b) || e != api.OK {
			t.Errorf("%+v: %+v, %d, %d", h, got, at, e)
		}
	}
}

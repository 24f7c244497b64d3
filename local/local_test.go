package local_test

import (
	"bytes"
	"encoding/hex"
	"math"
	"math/rand"
	"strings"
	"testing"

	"punnet/api"
	. "punnet/local"
	"punnet/octet"
	"punnet/trap"
)

var when = api.Time{Year: 2024, Month: 5, Day: 6, Hour: 7, Minute: 8, Sec: 10}

func header(change func(h *Header)) Header {
	h := Header{Name: "a", Time: when, Method: 8, CRC: 0x12345678, Packed: 0x0102, Size: 0x030405}
	if change != nil {
		change(&h)
	}
	return h
}

func all() []Header {
	var list []Header
	for _, name := range []string{"a", "dir/é.txt", strings.Repeat("x", 255), "~"} {
		for _, wide := range []bool{false, true} {
			for _, later := range []bool{false, true} {
				for _, method := range []int{0, 8} {
					list = append(list, header(func(h *Header) {
						h.Name, h.Wide, h.Later, h.Method = name, wide, later, method
						if method == 0 {
							h.Packed = h.Size
						}
					}))
				}
			}
		}
	}
	most := header(func(h *Header) { h.CRC, h.Packed, h.Size = math.MaxUint32, 2*api.MaxSize, api.MaxSize })
	wide := most
	wide.Wide = true
	return append(list, Header{Name: "z", Time: when}, most, wide)
}

func TestP27_1(t *testing.T) {
	for _, h := range all() {
		version, flags := 20, 0
		if h.Wide {
			version = 45
		}
		if h.Later {
			flags += 8
		}
		if strings.Contains(h.Name, "é") {
			flags += 0x800
		}
		if h.Version() != version || h.Flags() != flags || h.Check() != api.OK {
			t.Errorf("%+v: %d, %x, %d", h, h.Version(), h.Flags(), h.Check())
		}
	}
	cases := []struct {
		change func(h *Header)
		want   api.Errno
	}{
		{func(h *Header) { h.Name = "" }, api.ErrName},
		{func(h *Header) { h.Name, h.Time, h.Method, h.Size = "a/../b", api.Time{}, 9, -1 }, api.ErrName},
		{func(h *Header) { h.Time.Sec = 11 }, api.ErrTime},
		{func(h *Header) { h.Time, h.Method, h.Size = api.Time{}, 9, -1 }, api.ErrTime},
		{func(h *Header) { h.Method = 1 }, api.ErrMethod}, {func(h *Header) { h.Method = -8 }, api.ErrMethod},
		{func(h *Header) { h.Method, h.Size = 9, -1 }, api.ErrMethod},
		{func(h *Header) { h.Size = -1 }, api.ErrSize}, {func(h *Header) { h.Size = api.MaxSize + 1 }, api.ErrSize}, {func(h *Header) { h.Size = api.MaxSize }, api.OK},
		{func(h *Header) { h.Packed = -1 }, api.ErrSize}, {func(h *Header) { h.Packed = 2*api.MaxSize + 1 }, api.ErrSize}, {func(h *Header) { h.Packed = 2 * api.MaxSize }, api.OK},
		{func(h *Header) { h.Method = 0 }, api.ErrSize}, {func(h *Header) { h.Method, h.Packed, h.Later = 0, h.Size+1, true }, api.ErrSize},
		{func(h *Header) { h.Packed, h.Size = math.MinInt, math.MaxInt }, api.ErrSize},
		{func(h *Header) { h.Size, h.Packed = 0, 0 }, api.OK},
	}
	for i, c := range cases {
		h := header(c.change)
		b, e := h.Encode()
		if h.Check() != c.want || e != c.want || (b == nil) != (e != api.OK) {
			t.Errorf("case %d: %d, %d", i, h.Check(), e)
		}
	}
}

func TestP27_2(t *testing.T) {
	cases := []struct {
		h    Header
		want string
	}{
		{header(nil), "504b0304 1400 0000 0800 0539 a658 78563412 02010000 05040300 0100 0000 61"},
		{header(func(h *Header) { h.Later = true }), "504b0304 1400 0800 0800 0539 a658 00000000 00000000 00000000 0100 0000 61"},
		{header(func(h *Header) { h.Wide = true }), "504b0304 2d00 0000 0800 0539 a658 78563412 ffffffff ffffffff 0100 1400 61 0100 1000 0504030000000000 0201000000000000"},
		{header(func(h *Header) { h.Wide, h.Later = true, true }), "504b0304 2d00 0800 0800 0539 a658 00000000 ffffffff ffffffff 0100 1400 61 0100 1000 0000000000000000 0000000000000000"},
		{header(func(h *Header) { h.Name, h.Method, h.Packed = "é", 0, h.Size }), "504b0304 1400 0008 0000 0539 a658 78563412 05040300 05040300 0200 0000 c3a9"},
		{header(func(h *Header) { h.Name, h.Later = "é", true }), "504b0304 1400 0808 0800 0539 a658 00000000 00000000 00000000 0200 0000 c3a9"},
	}
	for i, c := range cases {
		b, e := c.h.Encode()
		want, err := hex.DecodeString(strings.ReplaceAll(c.want, " ", ""))
		if err != nil || e != api.OK || !bytes.Equal(b, want) {
			t.Errorf("case %d: %x, %d, %v", i, b, e, err)
		}
	}
	if b, _ := header(nil).Encode(); len(b) != 31 {
		t.Errorf("%d bytes", len(b))
	}
}

// told returns what the record of a header tells.
func told(h Header) Header {
	if h.Later {
		h.CRC, h.Packed, h.Size = 0, 0, 0
	}
	return h
}

func TestP27_3(t *testing.T) {
	for _, h := range all() {
		b, _ := h.Encode()
		for _, behind := range []string{"", "more"} {
			data := append([]byte("PK\x03"+string(b)), behind...)
			got, at, e := Parse(data, 3)
			if got != told(h) || at != 3+len(b) || e != api.OK {
				t.Errorf("Parse of %+v: %+v, %d, %d", h, got, at, e)
			}
			r := octet.Over(data)
			r.Bytes(3)
			if got := Read(r); got != told(h) || r.At() != 3+len(b) {
				t.Errorf("Read of %+v: %+v, %d", h, got, r.At())
			}
		}
		for n := range b {
			if got, at, e := Parse(b[:n], 0); got != (Header{}) || at != 0 || e == api.OK {
				t.Errorf("Parse of %d bytes: %+v, %d, %d", n, got, at, e)
			}
			if e := trap.Catch(func() { Read(octet.Over(b[:n])) }); e == api.OK {
				t.Errorf("Read of %d bytes", n)
			}
		}
		for _, at := range []int{-1, 1, len(b), len(b) + 1, math.MinInt, math.MaxInt} {
			if got, end, e := Parse(b, at); got != (Header{}) || end != 0 || e == api.OK {
				t.Errorf("Parse at %d: %+v, %d, %d", at, got, end, e)
			}
		}
	}
}

// strictly holds that only the record of a header is read as this header.
func strictly(t *testing.T, b []byte) {
	t.Helper()
	h, at, e := Parse(b, 0)
	if e != api.OK {
		if h != (Header{}) || at != 0 {
			t.Fatalf("with the error %d: %+v, %d", e, h, at)
		}
		return
	}
	again, e := h.Encode()
	if e != api.OK || !bytes.Equal(again, b[:at]) || told(h) != h {
		t.Fatalf("% x is read as %+v", b, h)
	}
}

func TestP27_3Strict(t *testing.T) {
	rnd := rand.New(rand.NewSource(27))
	changed := 0
	for _, h := range all() {
		b, _ := h.Encode()
		for i := range b {
			for _, v := range []byte{1, 2, 4, 8, 16, 32, 64, 128, 0xff, byte(rnd.Intn(256))} {
				bad := bytes.Clone(b)
				bad[i] ^= v
				strictly(t, bad)
				if _, _, e := Parse(bad, 0); e != api.OK {
					changed++
				}
			}
		}
	}
	if changed < 1000 {
		t.Errorf("only %d changed records are refused", changed)
	}
	later, _ := header(func(h *Header) { h.Later = true }).Encode()
	for _, i := range []int{14, 18, 22} {
		bad := bytes.Clone(later)
		bad[i] = 1
		if _, _, e := Parse(bad, 0); e == api.OK {
			t.Errorf("what is told later is not 0 at %d", i)
		}
	}
}

func TestP27_4(t *testing.T) {
	rnd := rand.New(rand.NewSource(274))
	for range 300 {
		h := header(func(h *Header) {
			h.Name = strings.Repeat("n", 1+rnd.Intn(255))
			h.CRC, h.Size, h.Packed = rnd.Uint32(), rnd.Intn(api.MaxSize+1), rnd.Intn(2*api.MaxSize+1)
			h.Wide, h.Later = rnd.Intn(2) == 0, rnd.Intn(2) == 0
		})
		b, _ := h.Encode()
		if got, at, e := Parse(b, 0); got != told(h) || at != len(b) || e != api.OK {
			t.Errorf("%+v: %+v, %d, %d", h, got, at, e)
		}
	}
}

package finish_test

import (
	"bytes"
	"encoding/hex"
	"math"
	"math/rand"
	"strings"
	"testing"

	"punnet/api"
	. "punnet/finish"
)

const most = 1<<32 - 2

func TestP30_1Check(t *testing.T) {
	cases := []struct {
		entries, size, at int
		want              api.Errno
	}{
		{0, 0, 0, api.OK}, {1000, most, most, api.OK}, {1001, 0, 0, api.ErrSize}, {0, most + 1, 0, api.ErrSize}, {0, 0, most + 1, api.ErrSize},
		{-1, 0, 0, api.ErrSize}, {0, -1, 0, api.ErrSize}, {0, 0, -1, api.ErrSize}, {65535, most + 1, most + 1, api.ErrSize}, {math.MaxInt, math.MinInt, math.MaxInt, api.ErrSize},
	}
	for _, c := range cases {
		for _, wide := range []bool{false, true} {
			x := Tail{Entries: c.entries, Size: c.size, At: c.at, Wide: wide}
			b, e := x.Encode()
			if x.Check() != c.want || e != c.want || (b == nil) != (e != api.OK) {
				t.Errorf("%+v: %d, %d", x, x.Check(), e)
			}
		}
	}
}

func TestP30_1Encode(t *testing.T) {
	cases := []struct {
		x    Tail
		want string
	}{
		{Tail{}, "504b0506 000000000000000000000000000000000000"},
		{Tail{Entries: 0x0102, Size: 0x03040506, At: 0x0708090a}, "504b0506 0000 0000 0201 0201 06050403 0a090807 0000"},
		{Tail{Entries: 0x0102, Size: 0x03040506, At: 0xf708090a, Wide: true}, "504b0606 2c00000000000000 2d03 2d00 00000000 00000000 0201000000000000 0201000000000000 0605040300000000 0a0908f700000000" +
			"504b0607 00000000 100e0cfa00000000 01000000 504b0506 0000 0000 ffff ffff ffffffff ffffffff 0000"},
	}
	for i, c := range cases {
		b, e := c.x.Encode()
		want, err := hex.DecodeString(strings.ReplaceAll(c.want, " ", ""))
		if err != nil || e != api.OK || !bytes.Equal(b, want) {
			t.Errorf("case %d: %x, %d, %v", i, b, e, err)
		}
		if c.x.Wide != (len(b) == WideLen) || !c.x.Wide && len(b) != Len {
			t.Errorf("case %d: %d bytes", i, len(b))
		}
	}
	carry := Tail{Size: most, At: most, Wide: true}
	if b, _ := carry.Encode(); !bytes.Equal(b[64:72], []byte{0xfc, 0xff, 0xff, 0xff, 1, 0, 0, 0}) {
		t.Errorf("the sum has four bytes: % x", b[64:72])
	}
}

func all() []Tail {
	var list []Tail
	for _, wide := range []bool{false, true} {
		list = append(list, Tail{Wide: wide}, Tail{1, 47, 31, wide}, Tail{1000, most, most, wide}, Tail{255, 65535, 1 << 24, wide})
	}
	return list
}

func TestP30_2(t *testing.T) {
	for _, x := range all() {
		b, _ := x.Encode()
		for _, before := range []string{"", "x", strings.Repeat("PK\x05\x06", 50)} {
			if got, at, e := Parse([]byte(before + string(b))); got != x || at != len(before) || e != api.OK {
				t.Errorf("%+v: %+v, %d, %d", x, got, at, e)
			}
		}
		for n := range b {
			if got, at, e := Parse(b[:n]); got != (Tail{}) || at != 0 || e == api.OK {
				t.Errorf("%+v cut off: %+v, %d, %d", x, got, at, e)
			}
			if got, at, e := Parse(b[len(b)-n:]); got != (Tail{}) || at != 0 || e == api.OK {
				t.Errorf("%+v begun late: %+v, %d, %d", x, got, at, e)
			}
		}
		if _, _, e := Parse(append(bytes.Clone(b), 0)); e == api.OK {
			t.Errorf("%+v with a byte behind", x)
		}
	}
	if _, _, e := Parse(nil); e == api.OK {
		t.Error("no bytes")
	}
}

func TestP30_2Strict(t *testing.T) {
	refused := 0
	for _, x := range all() {
		b, _ := x.Encode()
		for i := range b {
			for k := range 8 {
				bad := bytes.Clone(b)
				bad[i] ^= 1 << k
				got, at, e := Parse(bad)
				if e != api.OK {
					refused++
					if got != (Tail{}) || at != 0 {
						t.Errorf("with the error %d: %+v, %d", e, got, at)
					}
					continue
				}
				if again, e := got.Encode(); e != api.OK || !bytes.Equal(again, bad[at:]) {
					t.Fatalf("% x is read as %+v", bad, got)
				}
			}
		}
	}
	if refused < 500 {
		t.Errorf("only %d changed ends are refused", refused)
	}
}

func TestP30_3(t *testing.T) {
	rnd := rand.New(rand.NewSource(30))
	for range 300 {
		x := Tail{rnd.Intn(1001), rnd.Intn(most + 1), rnd.Intn(most + 1), rnd.Intn(2) == 0}
		b, _ := x.Encode()
		before := make([]byte, rnd.Intn(200))
		rnd.Read(before)
		if got, at, e := Parse(append(before, b...)); got != x || at != len(before) || e != api.OK {
			t.Errorf("%+v: %+v, %d, %d", x, got, at, e)
		}
	}
}

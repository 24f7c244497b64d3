package gz_test

import (
	"bytes"
	"compress/gzip"
	"compress/zlib"
	"hash/adler32"
	"io"
	"math"
	"math/rand"
	"slices"
	"strings"
	"testing"

	"punnet/api"
	"punnet/deflate"
	. "punnet/gz"
)

func noise(n int) []byte {
	b := make([]byte, n)
	rand.New(rand.NewSource(int64(n))).Read(b)
	return b
}

func samples() [][]byte {
	return [][]byte{nil, []byte("a"), []byte(strings.Repeat("pack my box with five dozen liquor jugs; ", 300)), noise(5000), make([]byte, 40000)}
}

func TestP48_1Gzip(t *testing.T) {
	for _, b := range samples() {
		for level := range 10 {
			g, e := Gzip(b, level)
			packed, _ := deflate.All(b, level)
			if e != api.OK || !bytes.HasPrefix(g, []byte{0x1f, 0x8b, 8, 0, 0, 0, 0, 0, 0, 0xff}) || !bytes.Equal(g[10:len(g)-8], packed) {
				t.Errorf("%d bytes at level %d: %d", len(b), level, e)
			}
			r, err := gzip.NewReader(bytes.NewReader(g))
			if err != nil {
				t.Fatal(err)
			}
			if got, err := io.ReadAll(r); !bytes.Equal(got, b) || err != nil {
				t.Errorf("%d bytes at level %d, unpacked by another: %v", len(b), level, err)
			}
			if got, e := Gunzip(g, len(b)); !bytes.Equal(got, b) || e != api.OK {
				t.Errorf("%d bytes at level %d: %d", len(b), level, e)
			}
		}
	}
	for _, level := range []int{-1, 10, math.MinInt, math.MaxInt} {
		if g, e := Gzip([]byte("abc"), level); g != nil || e != api.ErrArg {
			t.Errorf("Gzip at level %d: %d", level, e)
		}
		if z, e := Zlib([]byte("abc"), level); z != nil || e != api.ErrArg {
			t.Errorf("Zlib at level %d: %d", level, e)
		}
	}
}

func TestP48_1Members(t *testing.T) {
	var all, want []byte
	for i, b := range samples() {
		g, _ := Gzip(b, i)
		all, want = append(all, g...), append(want, b...)
		if got, e := Gunzip(all, len(want)); !bytes.Equal(got, want) || e != api.OK {
			t.Errorf("%d members: %d", i+1, e)
		}
		if len(want) > 0 {
			if got, e := Gunzip(all, len(want)-1); got != nil || e == api.OK {
				t.Errorf("%d members beyond the limit", i+1)
			}
		}
		if got, e := Gunzip(append(bytes.Clone(all), 0), len(want)); got != nil || e == api.OK {
			t.Errorf("%d members and a byte", i+1)
		}
	}
	if got, e := Gunzip(nil, 10); got != nil || e == api.OK {
		t.Error("no member")
	}
	empty, _ := Gzip(nil, 6)
	if got, e := Gunzip(empty, 0); len(got) != 0 || e != api.OK {
		t.Errorf("no bytes: %d", e)
	}
	for _, limit := range []int{-1, math.MinInt} {
		if got, e := Gunzip(empty, limit); got != nil || e == api.OK {
			t.Errorf("no bytes with the limit %d", limit)
		}
	}
	many := bytes.Repeat(empty, 20000)
	if got, e := Gunzip(many, 0); len(got) != 0 || e != api.OK {
		t.Errorf("many members: %d", e)
	}
	a, _ := Gzip([]byte("abc"), 0)
	if got, e := Gunzip(slices.Concat(a, empty, a), math.MaxInt); string(got) != "abcabc" || e != api.OK {
		t.Errorf("%q, %d", got, e)
	}
}

// wrong holds that no other bytes than b are unpacked, except by chance of what blocks tell twice.
func wrong(t *testing.T, b, want []byte, again func([]byte, int) ([]byte, api.Errno), head, end int) {
	t.Helper()
	for i := range b {
		if got, e := again(b[:i], len(want)); got != nil || e == api.OK {
			t.Errorf("it is unpacked when cut off at %d", i)
		}
		if i >= head && i < len(b)-end {
			continue
		}
		for k := range 8 {
			bad := bytes.Clone(b)
			bad[i] ^= 1 << k
			if got, e := again(bad, len(want)); got != nil || e == api.OK {
				t.Errorf("it is unpacked with another byte %d", i)
			}
		}
	}
	for i := range b {
		bad := slices.Insert(bytes.Clone(b), i, ^b[i])
		if got, e := again(bad, len(want)); e == api.OK && !bytes.Equal(got, want) || e != api.OK && got != nil {
			t.Errorf("other bytes with one more at %d", i)
		}
	}
	if got, e := again(append(bytes.Clone(b), 0), len(want)); got != nil || e == api.OK {
		t.Error("it is unpacked with a byte behind")
	}
}

func TestP48_1Wrong(t *testing.T) {
	data := []byte(strings.Repeat("abc", 20) + "and more of it")
	for level := range 10 {
		g, _ := Gzip(data, level)
		wrong(t, g, data, Gunzip, 10, 8)
		z, _ := Zlib(data, level)
		wrong(t, z, data, Unzlib, 2, 4)
	}
	g, _ := Gzip(data, 6)
	z, _ := Zlib(data, 6)
	for _, b := range [][]byte{g[10:], g[2:], slices.Concat(g, g[10:])} {
		if got, e := Gunzip(b, 1000); got != nil || e == api.OK {
			t.Error("blocks without a head are unpacked")
		}
	}
	for _, b := range [][]byte{z[2:], z[1:]} {
		if got, e := Unzlib(b, 1000); got != nil || e == api.OK {
			t.Error("blocks without a head are unpacked")
		}
	}
	var other bytes.Buffer
	w := gzip.NewWriter(&other)
	w.Name = "named"
	w.Write(data)
	w.Close()
	if got, e := Gunzip(other.Bytes(), 1000); got != nil || e == api.OK {
		t.Error("a member with a name is unpacked")
	}
}

func TestP48_2Adler(t *testing.T) {
	if Adler([]byte("Wikipedia")) != 0x11e60398 || Adler(nil) != 1 {
		t.Error("Adler")
	}
	for _, b := range append(samples(), bytes.Repeat([]byte{255}, 100000)) {
		if Adler(b) != adler32.Checksum(b) {
			t.Errorf("Adler of %d bytes: %x", len(b), Adler(b))
		}
	}
}

func TestP48_2Zlib(t *testing.T) {
	for _, b := range samples() {
		for level := range 10 {
			z, e := Zlib(b, level)
			packed, _ := deflate.All(b, level)
			sum := adler32.Checksum(b)
			want := slices.Concat([]byte{0x78, 0x9c}, packed, []byte{byte(sum >> 24), byte(sum >> 16), byte(sum >> 8), byte(sum)})
			if !bytes.Equal(z, want) || e != api.OK {
				t.Errorf("%d bytes at level %d: %d", len(b), level, e)
			}
			r, err := zlib.NewReader(bytes.NewReader(z))
			if err != nil {
				t.Fatal(err)
			}
			if got, err := io.ReadAll(r); !bytes.Equal(got, b) || err != nil {
				t.Errorf("%d bytes at level %d, unpacked by another: %v", len(b), level, err)
			}
			if got, e := Unzlib(z, len(b)); !bytes.Equal(got, b) || e != api.OK {
				t.Errorf("%d bytes at level %d: %d", len(b), level, e)
			}
			if got, e := Unzlib(z, len(b)-1); got != nil || e == api.OK {
				t.Errorf("%d bytes at level %d beyond the limit", len(b), level)
			}
			if got, e := Unzlib(slices.Concat(z, z), 2*len(b)); got != nil || e == api.OK {
				t.Error("twice")
			}
		}
	}
	for _, b := range [][]byte{nil, {0x78}, {0x78, 0x9c}, {0x78, 0x01, 3, 0, 0, 0, 0, 1}} {
		if got, e := Unzlib(b, 100); got != nil || e == api.OK {
			t.Errorf("% x is unpacked", b)
		}
	}
	if got, e := Unzlib([]byte{0x78, 0x9c, 3, 0, 0, 0, 0, 1}, 0); len(got) != 0 || e != api.OK {
		t.Errorf("no bytes: %d", e)
	}
}

func TestP48_3(t *testing.T) {
	rnd := rand.New(rand.NewSource(48))
	for range 50 {
		b := noise(rnd.Intn(3000))
		for i := range b {
			b[i] &= 15
		}
		level := rnd.Intn(10)
		g, _ := Gzip(b, level)
		z, _ := Zlib(b, level)
		if got, e := Gunzip(g, len(b)); !bytes.Equal(got, b) || e != api.OK {
			t.Errorf("gzip: %d", e)
		}
		if got, e := Unzlib(z, len(b)); !bytes.Equal(got, b) || e != api.OK {
			t.Errorf("zlib: %d", e)
		}
		for _, n := range []int{0, 1, 5, 10, len(g) / 2, len(g) - 8, len(g) - 1} {
			if got, e := Gunzip(g[:max(n, 0)], len(b)); got != nil || e == api.OK {
				t.Errorf("gzip, cut off at %d", n)
			}
		}
		for _, n := range []int{0, 1, 2, len(z) / 2, len(z) - 4, len(z) - 1} {
			if got, e := Unzlib(z[:max(n, 0)], len(b)); got != nil || e == api.OK {
				t.Errorf("zlib, cut off at %d", n)
			}
		}
	}
}

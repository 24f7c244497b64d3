package deflate_test

import (
	"bytes"
	"compress/flate"
	"io"
	"math"
	"math/rand"
	"strings"
	"testing"

	"punnet/api"
	. "punnet/deflate"
	"punnet/inflate"
)

func noise(seed int64, n int) []byte {
	b := make([]byte, n)
	rand.New(rand.NewSource(seed)).Read(b)
	return b
}

// mixed has several pieces in one batch, the later ones stored.
func mixed() []byte {
	b := noise(10, 16000)
	for i := range 8000 {
		b[i] = "abcdefghijklmnop"[b[i]>>4]
	}
	return b
}

func samples() [][]byte {
	text := []byte(strings.Repeat("how much wood would a woodchuck chuck if a woodchuck could chuck wood? ", 900))
	rnd := rand.New(rand.NewSource(20))
	for range 3000 {
		text[rnd.Intn(len(text))] = byte(rnd.Intn(256))
	}
	return [][]byte{
		nil, []byte("a"), []byte("abcabcabc"), noise(1, 100), noise(2, 16383), noise(3, 16384), noise(4, 16385), noise(5, 50000),
		text, bytes.Repeat(noise(6, 30000), 3), make([]byte, 70000), mixed(),
	}
}

// unpack holds output against the input that it stands for, with this and another implementation.
func unpack(t *testing.T, out, want []byte) {
	t.Helper()
	got, n, e := inflate.All(out, len(want))
	if !bytes.Equal(got, want) || n != len(out) || e != api.OK {
		t.Errorf("%d bytes of %d, %d of %d, %d", len(got), len(want), n, len(out), e)
	}
	r := bytes.NewReader(out)
	got, err := io.ReadAll(flate.NewReader(r))
	if !bytes.Equal(got, want) || err != nil || r.Len() > 0 {
		t.Errorf("unpacked by another: %d bytes, %v", len(got), err)
	}
}

func TestP20_1New(t *testing.T) {
	for _, level := range []int{-1, 10, math.MinInt, math.MaxInt} {
		if c, e := New(level); c != nil || e != api.ErrArg {
			t.Errorf("New(%d): %v, %d", level, c, e)
		}
		if b, e := All([]byte("abc"), level); b != nil || e != api.ErrArg {
			t.Errorf("All at level %d: %v, %d", level, b, e)
		}
	}
	c, e := New(6)
	if e != api.OK || c.In() != 0 || c.Ended() || c.Blocks() != [3]int{} || len(c.Take()) != 0 {
		t.Error("a new compressor")
	}
}

func TestP20_1Ended(t *testing.T) {
	c, _ := New(3)
	c.Write([]byte("abc"))
	if e := c.Finish(); e != api.OK || !c.Ended() {
		t.Errorf("Finish: %d", e)
	}
	blocks := c.Blocks()
	if e := c.Write([]byte("d")); e != api.ErrState {
		t.Errorf("Write: %d", e)
	}
	if e := c.Sync(); e != api.ErrState {
		t.Errorf("Sync: %d", e)
	}
	if e := c.Finish(); e != api.ErrState {
		t.Errorf("Finish twice: %d", e)
	}
	if c.In() != 3 || c.Blocks() != blocks || !c.Ended() {
		t.Error("an error changed something")
	}
	unpack(t, c.Take(), []byte("abc"))
	if len(c.Take()) != 0 {
		t.Error("bytes are returned twice")
	}
}

func TestP20_1Finish(t *testing.T) {
	for i, b := range samples() {
		for level := range 10 {
			out, e := All(b, level)
			if e != api.OK {
				t.Fatal(e)
			}
			unpack(t, out, b)
			if len(out) > Bound(len(b)) {
				t.Errorf("sample %d at level %d: %d bytes, more than %d", i, level, len(out), Bound(len(b)))
			}
		}
	}
	for level := 1; level <= 9; level++ {
		if out, _ := All(nil, level); !bytes.Equal(out, []byte{3, 0}) {
			t.Errorf("no bytes at level %d: % x", level, out)
		}
	}
	if out, _ := All(nil, 0); !bytes.Equal(out, []byte{1, 0, 0, 255, 255}) {
		t.Errorf("no bytes at level 0: % x", out)
	}
}

func TestP20_1Sync(t *testing.T) {
	rnd := rand.New(rand.NewSource(201))
	for _, b := range samples() {
		for level := range 10 {
			c, _ := New(level)
			var out []byte
			for rest := b; len(rest) > 0; {
				n := min(len(rest), rnd.Intn(1<<rnd.Intn(16)))
				c.Write(rest[:n])
				rest = rest[n:]
				if rnd.Intn(2) == 0 {
					out = append(out, c.Take()...)
				}
				if rnd.Intn(3) == 0 {
					if e := c.Sync(); e != api.OK {
						t.Fatal(e)
					}
					out = append(out, c.Take()...)
					m, _ := inflate.New(len(b))
					e := m.Write(out)
					if got := m.Take(); !bytes.Equal(got, b[:len(b)-len(rest)]) || e != api.OK || m.Done() {
						t.Fatalf("Sync at %d of %d: %d bytes, %d", len(b)-len(rest), len(b), len(got), e)
					}
				}
			}
			c.Finish()
			unpack(t, append(out, c.Take()...), b)
		}
	}
	c, _ := New(6)
	for range 3 {
		c.Sync()
	}
	if c.Blocks() != [3]int{} {
		t.Errorf("Sync of no input made the blocks %v", c.Blocks())
	}
	c.Finish()
	unpack(t, c.Take(), nil)
}

// stored returns how many blocks of each kind there are in output that has stored ones only; the last one must be final.
func stored(t *testing.T, out []byte) [3]int {
	t.Helper()
	var found [3]int
	for at := 0; at+5 <= len(out); {
		if out[at]&6 != 0 {
			t.Fatalf("a block begins with %x", out[at])
		}
		found[0]++
		n := int(out[at+1]) | int(out[at+2])<<8
		if (out[at]&1 == 1) != (at+5+n == len(out)) {
			t.Fatal("another block is final")
		}
		at += 5 + n
	}
	return found
}

func TestP20_2(t *testing.T) {
	for _, n := range []int{0, 1, 16384, 16385, 70000} {
		c, _ := New(0)
		c.Write(noise(7, n))
		c.Finish()
		if found := stored(t, c.Take()); c.Blocks() != found || c.In() != n {
			t.Errorf("%d bytes at level 0: %v, not %v", n, c.Blocks(), found)
		}
	}
	c, _ := New(6)
	c.Finish()
	if c.Blocks() != [3]int{0, 1, 0} {
		t.Errorf("the end alone: %v", c.Blocks())
	}
	c, _ = New(6)
	c.Write(noise(8, 400))
	c.Sync()
	c.Sync()
	if c.Blocks() != [3]int{1, 0, 0} || c.In() != 400 {
		t.Errorf("noise: %v, %d", c.Blocks(), c.In())
	}
	few := noise(9, 400)
	for i := range few {
		few[i] &= 7
	}
	c.Write(few)
	c.Sync()
	if c.Blocks() != [3]int{1, 0, 1} {
		t.Errorf("noise and text: %v", c.Blocks())
	}
	c.Write([]byte("ab"))
	c.Finish()
	if c.Blocks() != [3]int{1, 1, 1} || c.In() != 400+400+2 {
		t.Errorf("noise, text and a little: %v, %d", c.Blocks(), c.In())
	}
}

func TestP20_3(t *testing.T) {
	cases := []struct{ n, want int }{{-1, 0}, {math.MinInt, 0}, {0, 206}, {1, 207}, {16383, 16589}, {16384, 16384 + 404}, {1 << 20, 1<<20 + 64*198 + 206}}
	for _, c := range cases {
		if n := Bound(c.n); n != c.want {
			t.Errorf("Bound(%d) = %d", c.n, n)
		}
	}
	for level := 1; level <= 9; level++ {
		for _, n := range []int{0, 1, 2, 3, 10, 100, 257, 258, 259, 1000, 16384, 16385, 300000} {
			for _, b := range []byte{0, 255} {
				out, _ := All(bytes.Repeat([]byte{b}, n), level)
				if len(out) > 20+n/50 {
					t.Errorf("%d equal bytes at level %d: %d", n, level, len(out))
				}
			}
		}
	}
	rnd := rand.New(rand.NewSource(203))
	for range 30 {
		n := rnd.Intn(60000)
		b := noise(int64(n), n)
		for i := range b {
			b[i] >>= rnd.Intn(2)
		}
		c, _ := New(rnd.Intn(10))
		got := 0
		for rest := b; len(rest) > 0; {
			k := min(len(rest), rnd.Intn(5000))
			c.Write(rest[:k])
			rest = rest[k:]
			got += len(c.Take())
		}
		c.Finish()
		if got += len(c.Take()); got > Bound(n) {
			t.Errorf("%d bytes became %d", n, got)
		}
	}
}

func TestP20_4(t *testing.T) {
	rnd := rand.New(rand.NewSource(204))
	for _, b := range samples() {
		for level := range 10 {
			c, _ := New(level)
			var out []byte
			for rest := b; len(rest) > 0; {
				n := min(len(rest), rnd.Intn(1<<rnd.Intn(16)))
				piece := bytes.Clone(rest[:n])
				if e := c.Write(piece); e != api.OK {
					t.Fatal(e)
				}
				clear(piece)
				rest = rest[n:]
				out = append(out, c.Take()...)
			}
			if c.In() != len(b) {
				t.Errorf("In: %d of %d", c.In(), len(b))
			}
			c.Finish()
			unpack(t, append(out, c.Take()...), b)
		}
	}
}

// Many small writes take no longer than their bytes do.
func TestP20_4Small(t *testing.T) {
	c, _ := New(1)
	b := samples()[8][:40000]
	var out []byte
	for i := range b {
		c.Write(b[i : i+1])
		out = append(out, c.Take()...)
	}
	c.Finish()
	unpack(t, append(out, c.Take()...), b)
}

package dev_test

import (
	"bytes"
	"math"
	"math/rand"
	"testing"

	"punnet/api"
	. "punnet/dev"
)

func all(t *testing.T, d *Device) []byte {
	t.Helper()
	b, e := d.Read(0, d.Cap())
	if e != api.OK || len(b) != d.Cap() {
		t.Fatalf("Read of all: %d bytes, %d", len(b), e)
	}
	return b
}

func TestP3_1(t *testing.T) {
	for _, size := range []int{-1, api.MaxCap + 1, math.MinInt, math.MaxInt} {
		if d, e := New(size); d != nil || e != api.ErrRange {
			t.Errorf("New(%d): %v, %d", size, d, e)
		}
	}
	for _, size := range []int{0, 1, 100, api.MaxCap} {
		d, e := New(size)
		if e != api.OK || d.Cap() != size {
			t.Fatalf("New(%d): %d", size, e)
		}
		if !bytes.Equal(all(t, d), make([]byte, size)) {
			t.Errorf("New(%d) is not zero", size)
		}
	}
}

func TestP3_2Example(t *testing.T) {
	d, _ := New(4)
	if e := d.Write(2, []byte("ab")); e != api.OK {
		t.Error(e)
	}
	if e := d.Move(2, 1, 2); e != api.OK {
		t.Error(e)
	}
	if b := all(t, d); string(b) != "\x00abb" {
		t.Errorf("%q", b)
	}
}

func TestP3_2Ranges(t *testing.T) {
	edges := []int{math.MinInt, -1, 0, 1, 4, 5, 6, 7, math.MaxInt}
	for _, at := range edges {
		for _, n := range edges {
			is := n >= 0 && at >= 0 && at <= 6 && n <= 6-at
			want := api.ErrRange
			if is {
				want = api.OK
			}
			d, _ := New(6)
			d.Write(0, []byte("abcdef"))
			before := all(t, d)
			reads, writes := d.Reads(), d.Writes()
			b, e := d.Read(at, n)
			if e != want || is && !bytes.Equal(b, before[at:at+n]) || !is && b != nil {
				t.Errorf("Read(%d, %d) = %q, %d", at, n, b, e)
			}
			if n >= 0 && n <= 7 {
				if e := d.Write(at, make([]byte, n)); e != want {
					t.Errorf("Write(%d, %d) = %d", at, n, e)
				}
			}
			if e := d.Wipe(at, n); e != want {
				t.Errorf("Wipe(%d, %d) = %d", at, n, e)
			}
			if e := d.Move(at, 0, n); e != want {
				t.Errorf("Move(%d, 0, %d) = %d", at, n, e)
			}
			if e := d.Move(0, at, n); e != want {
				t.Errorf("Move(0, %d, %d) = %d", at, n, e)
			}
			if !is && (!bytes.Equal(all(t, d), before) || d.Reads() != reads+6 || d.Writes() != writes) {
				t.Errorf("range %d, %d: a call that failed did something", at, n)
			}
		}
	}
}

func TestP3_2Move(t *testing.T) {
	for from := 0; from <= 6; from++ {
		for to := 0; to <= 6; to++ {
			for n := 0; n <= 6-max(from, to); n++ {
				d, _ := New(6)
				d.Write(0, []byte("abcdef"))
				want := []byte("abcdef")
				copy(want[to:], []byte("abcdef")[from:from+n])
				d.Move(from, to, n)
				if b := all(t, d); !bytes.Equal(b, want) {
					t.Errorf("Move(%d, %d, %d): %q", from, to, n, b)
				}
			}
		}
	}
}

func TestP3_2Wipe(t *testing.T) {
	d, _ := New(5)
	d.Write(0, []byte("abcde"))
	d.Wipe(1, 3)
	if b := all(t, d); string(b) != "a\x00\x00\x00e" {
		t.Errorf("%q", b)
	}
}

func TestP3_2Resize(t *testing.T) {
	d, _ := New(4)
	d.Write(0, []byte("abcd"))
	for _, size := range []int{-1, api.MaxCap + 1, math.MinInt, math.MaxInt} {
		if e := d.Resize(size); e != api.ErrRange || d.Cap() != 4 {
			t.Errorf("Resize(%d) = %d", size, e)
		}
	}
	steps := []struct {
		size int
		want string
	}{{6, "abcd\x00\x00"}, {2, "ab"}, {4, "ab\x00\x00"}, {0, ""}, {1, "\x00"}}
	for _, s := range steps {
		if e := d.Resize(s.size); e != api.OK || string(all(t, d)) != s.want {
			t.Errorf("Resize(%d): %d, %q", s.size, e, all(t, d))
		}
	}
	if e := d.Resize(api.MaxCap); e != api.OK || d.Cap() != api.MaxCap {
		t.Errorf("Resize to the most: %d", e)
	}
}

func TestP3_3Counts(t *testing.T) {
	d, _ := New(10)
	check := func(reads, writes int) {
		t.Helper()
		if d.Reads() != reads || d.Writes() != writes {
			t.Errorf("counts %d, %d; not %d, %d", d.Reads(), d.Writes(), reads, writes)
		}
	}
	check(0, 0)
	d.Read(0, 3)
	check(3, 0)
	d.Write(1, []byte("abcd"))
	check(3, 4)
	d.Move(1, 2, 3)
	check(6, 7)
	d.Wipe(0, 10)
	check(6, 17)
	d.Resize(5)
	d.Find(0, []byte("a"))
	check(6, 17)
	d.Read(4, 2)
	d.Write(4, []byte("ab"))
	d.Move(4, 0, 2)
	d.Wipe(4, 2)
	check(6, 17)
}

func TestP3_3Find(t *testing.T) {
	d, _ := New(6)
	d.Write(0, []byte("ababab"))
	cases := []struct {
		from int
		b    string
		at   int
		is   bool
	}{
		{0, "ab", 0, true}, {1, "ab", 2, true}, {4, "ab", 4, true}, {5, "ab", 0, false},
		{-9, "ab", 0, true}, {math.MinInt, "ba", 1, true}, {0, "abc", 0, false}, {3, "bab", 3, true},
		{0, "", 0, true}, {6, "", 6, true}, {7, "", 0, false}, {math.MaxInt, "", 0, false}, {-1, "", 0, true},
		{6, "a", 0, false}, {0, "abababa", 0, false}, {0, "\x00", 0, false},
	}
	for _, c := range cases {
		if at, is := d.Find(c.from, []byte(c.b)); at != c.at || is != c.is {
			t.Errorf("Find(%d, %q) = %d, %v", c.from, c.b, at, is)
		}
	}
}

func TestP3_4(t *testing.T) {
	r := rand.New(rand.NewSource(1))
	d, _ := New(50)
	model := make([]byte, 50)
	for range 2000 {
		at := r.Intn(50)
		n := r.Intn(51 - at)
		switch r.Intn(4) {
		case 0:
			b := make([]byte, n)
			r.Read(b)
			d.Write(at, b)
			copy(model[at:], b)
			clear(b)
		case 1:
			to := r.Intn(51 - n)
			d.Move(at, to, n)
			copy(model[to:to+n], bytes.Clone(model[at:at+n]))
		case 2:
			d.Wipe(at, n)
			clear(model[at : at+n])
		case 3:
			b, _ := d.Read(at, n)
			clear(b)
		}
		if !bytes.Equal(all(t, d), model) {
			t.Fatal("the device differs from what was written")
		}
	}
}

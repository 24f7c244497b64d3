package chains_test

import (
	"bytes"
	"math"
	"math/rand"
	"testing"

	. "punnet/chains"
)

func TestP15_1Learn(t *testing.T) {
	f := New([]byte("abcdef"))
	steps := []struct{ upto, known int }{{0, 0}, {-5, 0}, {math.MinInt, 0}, {2, 2}, {1, 2}, {4, 4}, {100, 6}, {math.MaxInt, 6}, {0, 6}}
	if f.Known() != 0 {
		t.Error("a new finder knows positions")
	}
	for _, s := range steps {
		f.Learn(s.upto)
		if f.Known() != s.known {
			t.Errorf("Learn(%d): %d", s.upto, f.Known())
		}
	}
	f = New(nil)
	f.Learn(9)
	if f.Known() != 0 {
		t.Error("positions of no bytes")
	}
}

func TestP15_1Same(t *testing.T) {
	f := New([]byte("abcabcabd"))
	cases := []struct{ a, b, most, want int }{
		{0, 3, 99, 5}, {3, 0, 99, 5}, {0, 3, 2, 2}, {0, 3, 0, 0}, {0, 3, -1, 0}, {0, 1, 9, 0}, {0, 6, 9, 2}, {2, 2, 99, 7}, {2, 2, math.MaxInt, 7},
		{-1, 0, 9, 0}, {0, -1, 9, 0}, {9, 0, 9, 0}, {0, 9, 9, 0}, {8, 8, 9, 1}, {math.MinInt, math.MaxInt, 5, 0}, {math.MaxInt, math.MaxInt, 5, 0}, {0, 3, math.MinInt, 0},
	}
	for _, c := range cases {
		if n := f.Same(c.a, c.b, c.most); n != c.want {
			t.Errorf("Same(%d, %d, %d) = %d", c.a, c.b, c.most, n)
		}
	}
}

// longest is what P15.2 says, position by position.
func longest(data []byte, known, i, depth int) (int, int) {
	best, dist := 0, 0
	if i < 0 || i+3 > len(data) {
		return 0, 0
	}
	for j := min(i, known) - 1; j >= 0 && i-j <= 32768 && depth > 0; j-- {
		if !bytes.Equal(data[j:j+3], data[i:i+3]) {
			continue
		}
		depth--
		n := 0
		for n < 258 && i+n < len(data) && data[j+n] == data[i+n] {
			n++
		}
		if n > best {
			best, dist = n, i-j
		}
	}
	return best, dist
}

func TestP15_2Example(t *testing.T) {
	f := New([]byte("abcabcab"))
	f.Learn(3)
	if n, d := f.Longest(3, 1); n != 5 || d != 3 {
		t.Errorf("%d, %d", n, d)
	}
	for _, i := range []int{-1, 6, 7, 8, 100, math.MinInt, math.MaxInt} {
		if n, d := f.Longest(i, 9); n != 0 || d != 0 {
			t.Errorf("Longest(%d) = %d, %d", i, n, d)
		}
	}
	for _, depth := range []int{0, -1, math.MinInt} {
		if n, d := f.Longest(3, depth); n != 0 || d != 0 {
			t.Errorf("with the depth %d: %d, %d", depth, n, d)
		}
	}
	if n, d := f.Longest(3, math.MaxInt); n != 5 || d != 3 {
		t.Errorf("with the greatest depth: %d, %d", n, d)
	}
}

func TestP15_2(t *testing.T) {
	rnd := rand.New(rand.NewSource(15))
	for _, letters := range []int{1, 2, 3, 10, 256} {
		data := make([]byte, 900)
		for i := range data {
			data[i] = byte(rnd.Intn(letters))
		}
		f := New(data)
		for _, known := range []int{0, 1, 300, 600, 898, 899, 900} {
			f.Learn(known)
			for i := -1; i <= 901; i++ {
				depth := rnd.Intn(40)
				n, d := f.Longest(i, depth)
				if wn, wd := longest(data, known, i, depth); n != wn || d != wd {
					t.Fatalf("letters %d, known %d: Longest(%d, %d) = %d, %d, not %d, %d", letters, known, i, depth, n, d, wn, wd)
				}
			}
		}
	}
}

func TestP15_2Window(t *testing.T) {
	for gap := 32766; gap <= 32770; gap++ {
		data := append([]byte("xyz"), make([]byte, gap-3)...)
		data = append(data, "xyz"...)
		f := New(data)
		f.Learn(gap)
		n, d := f.Longest(gap, 100)
		if gap <= 32768 && (n != 3 || d != gap) || gap > 32768 && (n != 0 || d != 0) {
			t.Errorf("gap %d: %d, %d", gap, n, d)
		}
	}
	data := bytes.Repeat([]byte{1}, 33400)
	f := New(data)
	f.Learn(33000)
	if n, d := f.Longest(33000, math.MaxInt); n != 258 || d != 1 {
		t.Errorf("equal bytes: %d, %d", n, d)
	}
}

// Three bytes of the same hash do not count.
func TestP15_2Hash(t *testing.T) {
	rnd := rand.New(rand.NewSource(5))
	data := make([]byte, 200000)
	rnd.Read(data)
	f := New(data)
	f.Learn(len(data))
	seen := map[[3]byte]int{}
	for i := 0; i+3 <= len(data); i++ {
		n, d := f.Longest(i, 1)
		key := [3]byte(data[i : i+3])
		last, is := seen[key]
		is = is && i-last <= 32768
		if is && d != i-last || !is && n != 0 {
			t.Fatalf("Longest(%d, 1) = %d, %d", i, n, d)
		}
		seen[key] = i
	}
}

// mixed is a hash by which a finder may look for three bytes: others with the same one are worth a test of their own.
func mixed(b []byte) uint32 {
	v := uint32(b[0]) | uint32(b[1])<<8 | uint32(b[2])<<16
	return v * 0x9e3779b1 >> 17
}

// Nor do they if one of the bytes is the same.
func TestP15_2SameHash(t *testing.T) {
	data := make([]byte, 100000)
	rand.New(rand.NewSource(6)).Read(data)
	last := map[uint32]int{}
	var found [4]int
	for i := 0; i+3 <= len(data); i++ {
		k, is := last[mixed(data[i:])]
		last[mixed(data[i:])] = i
		a, b := data[i:i+3], data[k:k+3]
		if !is || bytes.Equal(a, b) {
			continue
		}
		same := 3
		for n := range 3 {
			if a[n] == b[n] {
				same = n
			}
		}
		if found[same]++; found[same] > 20 {
			continue
		}
		f := New(bytes.Join([][]byte{a, b, a}, nil))
		f.Learn(6)
		if n, d := f.Longest(6, 1); n != 3 || d != 6 {
			t.Fatalf("% x, % x: %d, %d", a, b, n, d)
		}
		if n, d := f.Longest(3, 9); n != 0 || d != 0 {
			t.Fatalf("% x, % x: %d, %d", a, b, n, d)
		}
	}
	for n, times := range found {
		if times < 20 {
			t.Errorf("%d pairs with the same byte %d", times, n)
		}
	}
}

func TestP15_3(t *testing.T) {
	rnd := rand.New(rand.NewSource(16))
	data := make([]byte, 50000)
	for i := range data {
		data[i] = byte(rnd.Intn(2)) * byte(rnd.Intn(3))
	}
	f := New(data)
	for i := 0; i < len(data); i += 37 {
		f.Learn(i)
		n, d := f.Longest(i, 20)
		if n > 0 && (n < 3 || d < 1 || d > 32768 || !bytes.Equal(data[i:i+n], data[i-d:i-d+n])) {
			t.Fatalf("Longest(%d) = %d, %d", i, n, d)
		}
	}
	n := f.Same(0, 1, 100)
	data[n+1] ^= 99
	if f.Same(0, 1, 100) != n {
		t.Error("the finder keeps its argument")
	}
	data[n+1] ^= 99
	data[n] = data[n+1]
	if f.Same(0, 1, 100) != n {
		t.Error("the finder keeps its argument")
	}
}

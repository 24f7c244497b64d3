package crc_test

import (
	"hash/crc32"
	"math"
	"math/rand"
	"testing"

	. "punnet/crc"
)

func noise(seed int64, n int) []byte {
	b := make([]byte, n)
	rand.New(rand.NewSource(seed)).Read(b)
	return b
}

// slow is what P4.1 says, word by word.
func slow(sum uint32, data []byte) uint32 {
	sum = ^sum
	for _, b := range data {
		sum ^= uint32(b)
		for range 8 {
			out := sum & 1
			sum >>= 1
			if out == 1 {
				sum ^= 0xedb88320
			}
		}
	}
	return ^sum
}

func TestP4_1(t *testing.T) {
	if s := Sum([]byte("123456789")); s != 0xcbf43926 {
		t.Errorf("Sum: %x", s)
	}
	if Sum(nil) != 0 || Update(77, nil) != 77 {
		t.Error("sums of no bytes")
	}
	for b := range 256 {
		for _, sum := range []uint32{0, 1, math.MaxUint32, 0x12345678} {
			data := []byte{byte(b), 7}
			if Update(sum, data) != slow(sum, data) {
				t.Errorf("Update(%x, %v)", sum, data)
			}
		}
	}
	for n := range 300 {
		b := noise(int64(n), n)
		if Sum(b) != crc32.ChecksumIEEE(b) {
			t.Errorf("Sum of %d bytes", n)
		}
	}
}

func TestP4_2Combine(t *testing.T) {
	for _, n := range []int{0, 1, 2, 3, 8, 255, 256, 1000, 70000} {
		a, b := noise(1, 50), noise(2, n)
		if Combine(Sum(a), Sum(b), n) != crc32.ChecksumIEEE(append(a, b...)) {
			t.Errorf("Combine with %d bytes", n)
		}
	}
	if Combine(5, 0, -1) != 5 || Combine(5, 0, 0) != 5 || Combine(5, 0, math.MinInt) != 5 {
		t.Error("Combine with a negative number")
	}
}

func TestP4_2Zeros(t *testing.T) {
	for _, sum := range []uint32{0, 1, 0xdeadbeef, math.MaxUint32} {
		for _, n := range []int{0, 1, 2, 7, 64, 1000, 65537} {
			if Zeros(sum, n) != Update(sum, make([]byte, n)) {
				t.Errorf("Zeros(%x, %d)", sum, n)
			}
		}
		if Zeros(sum, -1) != sum || Zeros(sum, math.MinInt) != sum {
			t.Error("Zeros of a negative number")
		}
		if Zeros(sum, math.MaxInt) != Zeros(Zeros(sum, math.MaxInt-1000), 1000) {
			t.Error("Zeros of a great number")
		}
	}
}

func TestP4_3(t *testing.T) {
	var d, o Digest
	if d.Sum() != 0 || d.Len() != 0 {
		t.Error("the zero Digest")
	}
	d.Write([]byte("12345"))
	o.Write([]byte("67"))
	o.Write([]byte("89"))
	d.Join(o)
	if d.Sum() != 0xcbf43926 || d.Len() != 9 {
		t.Errorf("Join: %x, %d", d.Sum(), d.Len())
	}
	if o.Len() != 4 || o.Sum() != Sum([]byte("6789")) {
		t.Error("Join changed its argument")
	}
	d.Join(Digest{})
	if d.Sum() != 0xcbf43926 || d.Len() != 9 {
		t.Error("Join of no bytes")
	}
	d.Join(d)
	if d.Sum() != Sum([]byte("123456789123456789")) || d.Len() != 18 {
		t.Error("Join of itself")
	}
}

func TestP4_4(t *testing.T) {
	b := noise(9, 500)
	for cut := range b {
		var d, behind Digest
		d.Write(b[:cut])
		behind.Write(b[cut:])
		if Update(Sum(b[:cut]), b[cut:]) != Sum(b) {
			t.Fatalf("Update at %d", cut)
		}
		d.Join(behind)
		if d.Sum() != Sum(b) || d.Len() != len(b) {
			t.Fatalf("Join at %d", cut)
		}
	}
}

package inflate_test

import (
	"bytes"
	"compress/flate"
	"math"
	"math/rand"
	"strings"
	"testing"

	"punnet/alpha"
	"punnet/api"
	"punnet/bitout"
	"punnet/canon"
	. "punnet/inflate"
)

// pack compresses with another implementation.
func pack(t *testing.T, b []byte, level int) []byte {
	t.Helper()
	var out bytes.Buffer
	w, err := flate.NewWriter(&out, level)
	if err != nil {
		t.Fatal(err)
	}
	w.Write(b)
	w.Close()
	return out.Bytes()
}

func samples() [][]byte {
	rnd := rand.New(rand.NewSource(13))
	noise := make([]byte, 70000)
	rnd.Read(noise)
	text := []byte(strings.Repeat("the quick brown fox jumps over the lazy dog; ", 900))
	for range 2000 {
		text[rnd.Intn(len(text))] = byte(rnd.Intn(256))
	}
	far := append(bytes.Clone(noise[:32768]), noise[:500]...)
	return [][]byte{nil, []byte("a"), []byte("abcabcabcabc"), bytes.Repeat([]byte{7}, 100000), noise, text, far}
}

// bits builds a stream of numbers and codes.
type bits struct{ *bitout.Writer }

func (b bits) put(pairs ...int) bits {
	for i := 0; i < len(pairs); i += 2 {
		b.Put(uint32(pairs[i]), pairs[i+1])
	}
	return b
}

func (b bits) code(lens []int, symbols ...int) bits {
	codes, _ := canon.Codes(lens)
	for _, sym := range symbols {
		b.Put(codes[sym], lens[sym])
	}
	return b
}

func (b bits) end() []byte { return b.Finish() }

func stream() bits { return bits{bitout.New()} }

func TestP13_1New(t *testing.T) {
	for _, limit := range []int{-1, math.MinInt} {
		if m, e := New(limit); m != nil || e != api.ErrArg {
			t.Errorf("New(%d): %v, %d", limit, m, e)
		}
	}
	m, e := New(0)
	if e != api.OK || m.Len() != 0 || m.Done() || m.Fault() != api.OK || len(m.Take()) != 0 || len(m.Rest()) != 0 {
		t.Error("a new machine")
	}
	if e := m.Write(nil); e != api.OK || m.Done() {
		t.Error("Write of nothing")
	}
	if e := m.Write([]byte{3, 0}); e != api.OK || !m.Done() || m.Len() != 0 {
		t.Error("the bytes 03 00")
	}
}

func TestP13_1Take(t *testing.T) {
	b := pack(t, []byte("abcdef"), 0)
	m, _ := New(100)
	m.Write(b[:7])
	first := m.Take()
	if string(first) != "ab" || m.Len() != 2 || len(m.Take()) != 0 || m.Done() || m.Rest() != nil {
		t.Errorf("%q, %d", first, m.Len())
	}
	m.Write(append(bytes.Clone(b[7:]), 1, 2))
	m.Write([]byte{3})
	if s := string(m.Take()); s != "cdef" || m.Len() != 6 || !m.Done() || string(first) != "ab" {
		t.Errorf("%q, %d", s, m.Len())
	}
	for range 2 {
		if r := m.Rest(); !bytes.Equal(r, []byte{1, 2, 3}) {
			t.Errorf("Rest: %v", r)
		}
	}
}

func TestP13_1Others(t *testing.T) {
	for i, b := range samples() {
		for level := -2; level <= 9; level++ {
			p := pack(t, b, level)
			got, n, e := All(p, len(b))
			if !bytes.Equal(got, b) || n != len(p) || e != api.OK {
				t.Errorf("sample %d at level %d: %d bytes, %d, %d", i, level, len(got), n, e)
			}
			if len(b) > 0 {
				if got, n, e := All(p, len(b)-1); got != nil || n != 0 || e != api.ErrLimit {
					t.Errorf("sample %d at level %d with a limit: %d, %d", i, level, n, e)
				}
			}
			if got, n, e := All(p[:len(p)-1], len(b)); got != nil || n != 0 || e != api.ErrShort {
				t.Errorf("sample %d at level %d cut off: %d, %d", i, level, n, e)
			}
			if _, n, e := All(append(p, 9, 9), len(b)); n != len(p) || e != api.OK {
				t.Errorf("sample %d at level %d with more behind: %d, %d", i, level, n, e)
			}
		}
	}
}

func fixed(symbols ...int) bits {
	return stream().put(1, 1, 1, 2).code(alpha.FixedLits(), symbols...)
}

// shorts begins a dynamic block whose code lengths have codes of the given lengths, for the symbols 0 to 18.
func shorts(lits, dists int, lens map[int]int) bits {
	b := stream().put(1, 1, 2, 2, lits-257, 5, dists-1, 5, 15, 4)
	for i := range 19 {
		b.put(lens[alpha.Order(i)], 3)
	}
	return b
}

func list19(lens map[int]int) []int {
	list := make([]int, 19)
	for sym, n := range lens {
		list[sym] = n
	}
	return list
}

var dynamicCases = []struct {
	name string
	b    func() []byte
	want api.Errno
}{
	{"the counts 287, 1", func() []byte { return stream().put(1, 1, 2, 2, 30, 5, 0, 5, 0, 4).end() }, api.ErrCounts},
	{"the counts 286, 31", func() []byte { return stream().put(1, 1, 2, 2, 29, 5, 30, 5, 0, 4).end() }, api.ErrCounts},
	{"the counts 286, 30", func() []byte { return stream().put(1, 1, 2, 2, 29, 5, 29, 5, 0, 4).put(0, 0).end() }, api.ErrShort},
	{"no code lengths", func() []byte { return shorts(257, 1, nil).end() }, api.ErrLack},
	{"a single code length", func() []byte { return shorts(257, 1, map[int]int{0: 1}).end() }, api.ErrLack},
	{"too many code lengths", func() []byte { return shorts(257, 1, map[int]int{0: 1, 1: 1, 2: 1}).end() }, api.ErrOver},
	{"nothing to repeat", func() []byte {
		lens := map[int]int{0: 1, 16: 1}
		return shorts(257, 1, lens).code(list19(lens), 16).put(0, 2).end()
	}, api.ErrLens},
	{"more lengths than there are", func() []byte {
		lens := map[int]int{1: 1, 18: 1}
		return shorts(257, 1, lens).code(list19(lens), 18).put(127, 7).code(list19(lens), 18).put(110, 7).end()
	}, api.ErrLens},
	{"no end of the block", func() []byte {
		lens := map[int]int{1: 1, 18: 1}
		return shorts(257, 1, lens).code(list19(lens), 1, 1, 18).put(127, 7).code(list19(lens), 18).put(107, 7).end()
	}, api.ErrLens},
	{"too few literals", func() []byte {
		lens := map[int]int{2: 1, 18: 1}
		return shorts(257, 1, lens).code(list19(lens), 18).put(127, 7).code(list19(lens), 18).put(107, 7).code(list19(lens), 2, 2).end()
	}, api.ErrLack},
	{"too many literals", func() []byte {
		lens := map[int]int{1: 1, 18: 1}
		return shorts(257, 1, lens).code(list19(lens), 1, 1, 18).put(127, 7).code(list19(lens), 18).put(105, 7).code(list19(lens), 1, 1).end()
	}, api.ErrOver},
	{"too few distances", func() []byte {
		lens := map[int]int{1: 1, 2: 2, 18: 2}
		return shorts(257, 1, lens).code(list19(lens), 18).put(127, 7).code(list19(lens), 18).put(107, 7).code(list19(lens), 1, 2).end()
	}, api.ErrLack},
	{"too many distances", func() []byte {
		lens := map[int]int{1: 1, 18: 1}
		return shorts(257, 3, lens).code(list19(lens), 18).put(127, 7).code(list19(lens), 18).put(107, 7).code(list19(lens), 1, 1, 1, 1).end()
	}, api.ErrOver},
	{"the other bit of a single literal", func() []byte {
		return single(1, 0).put(1, 1).end()
	}, api.ErrCode},
	{"the end as a single code", func() []byte {
		return single(1, 0).put(0, 1).end()
	}, api.OK},
	{"a match without distances", func() []byte {
		return match(0).put(1, 1).put(0, 0).end()
	}, api.ErrCode},
	{"a match with the other bit of a single distance", func() []byte {
		return match(1).put(3, 2, 1, 1).end()
	}, api.ErrCode},
}

// single begins a dynamic block in which only the end has a code, of one bit.
func single(end, dist int) bits {
	lens := map[int]int{0: 2, 1: 2, 18: 1}
	b := shorts(257, 1, lens).code(list19(lens), 18).put(127, 7).code(list19(lens), 18).put(107, 7)
	return b.code(list19(lens), end, dist)
}

// match begins a dynamic block in which the end is 0, and matches of three bytes are 1.
func match(dist int) bits {
	lens := map[int]int{0: 2, 1: 2, 18: 1}
	b := shorts(258, 1, lens).code(list19(lens), 18).put(127, 7).code(list19(lens), 18).put(107, 7)
	return b.code(list19(lens), 1, 1, dist)
}

func TestP13_1Dynamic(t *testing.T) {
	for _, c := range dynamicCases {
		if _, _, e := All(c.b(), 100); e != c.want {
			t.Errorf("%s: %d, not %d", c.name, e, c.want)
		}
	}
}

func TestP13_1Fixed(t *testing.T) {
	dist := func(b bits, sym int) bits { return b.code(alpha.FixedDists(), sym) }
	cases := []struct {
		name  string
		b     []byte
		limit int
		want  api.Errno
		out   string
	}{
		{"bytes", fixed('a', 'b', 200, 256).end(), 3, api.OK, "ab\xc8"},
		{"too many bytes", fixed('a', 'b', 200, 256).end(), 2, api.ErrLimit, "ab"},
		{"the length 286", fixed('a', 286).end(), 9, api.ErrCode, "a"},
		{"the length 287", fixed('a', 287).end(), 9, api.ErrCode, "a"},
		{"the distance 30", dist(fixed('a', 257), 30).end(), 9, api.ErrCode, "a"},
		{"the distance 31", dist(fixed('a', 257), 31).end(), 9, api.ErrCode, "a"},
		{"a match", dist(fixed('a', 257), 0).code(alpha.FixedLits(), 256).end(), 4, api.OK, "aaaa"},
		{"a match beyond the limit", dist(fixed('a', 257), 0).code(alpha.FixedLits(), 256).end(), 3, api.ErrLimit, "a"},
		{"a match too far", dist(fixed('a', 257), 1).end(), 9, api.ErrDist, "a"},
		{"a match too far and beyond the limit", dist(fixed('a', 257), 1).end(), 1, api.ErrDist, "a"},
		{"a match at the beginning", dist(fixed(257), 0).end(), 9, api.ErrDist, ""},
		{"a long match", dist(fixed('a', 'b', 285), 1).code(alpha.FixedLits(), 256).end(), 260, api.OK, strings.Repeat("ab", 130)},
		{"extra bits of a length", dist(fixed('a', 265).put(1, 1), 0).code(alpha.FixedLits(), 256).end(), 13, api.OK, strings.Repeat("a", 13)},
		{"extra bits of a distance", dist(fixed('a', 'b', 'c', 'd', 'e', 'f', 257), 4).put(1, 1).code(alpha.FixedLits(), 256).end(), 9, api.OK, "abcdefabc"},
		{"the kind 3", []byte{7}, 9, api.ErrBlock, ""},
		{"no input", nil, 9, api.ErrShort, ""},
		{"a block that is not final", []byte{2, 0}, 9, api.ErrShort, ""},
		{"two blocks", append([]byte{0, 1, 0, 0xfe, 0xff, 'x'}, fixed('y', 256).end()...), 2, api.OK, "xy"},
		{"a stored block", []byte{1, 2, 0, 0xfd, 0xff, 'x', 'y'}, 2, api.OK, "xy"},
		{"a stored block with padding", []byte{0xf9, 2, 0, 0xfd, 0xff, 'x', 'y'}, 2, api.OK, "xy"},
		{"an empty stored block", []byte{1, 0, 0, 0xff, 0xff}, 0, api.OK, ""},
		{"a wrong length", []byte{1, 2, 0, 0xfd, 0xfe, 'x', 'y'}, 2, api.ErrStored, ""},
		{"half a wrong length", []byte{1, 2, 0, 0xfc}, 2, api.ErrShort, ""},
		{"stored bytes beyond the limit", []byte{1, 2, 0, 0xfd, 0xff, 'x', 'y'}, 1, api.ErrLimit, "x"},
		{"stored bytes up to the limit", []byte{1, 2, 0, 0xfd, 0xff, 'x'}, 1, api.ErrShort, "x"},
	}
	for _, c := range cases {
		out, n, e := All(c.b, c.limit)
		if e != c.want || e != api.OK && (out != nil || n != 0) || e == api.OK && (string(out) != c.out || n != len(c.b)) {
			t.Errorf("%s: %q, %d, %d", c.name, out, n, e)
		}
		m, _ := New(c.limit)
		fault := m.Write(c.b)
		if want := map[bool]api.Errno{true: api.OK, false: c.want}[c.want == api.ErrShort]; fault != want || m.Fault() != want {
			t.Errorf("%s: Write: %d, %d", c.name, fault, m.Fault())
		}
		if m.Done() != (c.want == api.OK) || m.Len() != len(c.out) || string(m.Take()) != c.out {
			t.Errorf("%s: done %v, %d bytes", c.name, m.Done(), m.Len())
		}
		if fault != api.OK {
			if e := m.Write([]byte{3, 0}); e != fault || m.Len() != len(c.out) || m.Done() || m.Rest() != nil {
				t.Errorf("%s: it continues after the error", c.name)
			}
		}
	}
}

// A distance may be 32768, but no more than what has been produced.
func TestP13_1Far(t *testing.T) {
	for extra := 8190; extra <= 8191; extra++ {
		for have := 32766; have <= 32768; have++ {
			b := stream().put(0, 1, 0, 2)
			b.Bytes([]byte{byte(have), byte(have >> 8), ^byte(have), ^byte(have >> 8)})
			data := make([]byte, have)
			rand.New(rand.NewSource(1)).Read(data)
			b.Bytes(data)
			b.put(1, 1, 1, 2).code(alpha.FixedLits(), 257).code(alpha.FixedDists(), 29).put(extra, 13).code(alpha.FixedLits(), 256)
			out, _, e := All(b.end(), 40000)
			dist := 24577 + extra
			if dist > have {
				if e != api.ErrDist {
					t.Errorf("distance %d of %d: %d", dist, have, e)
				}
			} else if e != api.OK || !bytes.Equal(out[have:], out[have-dist:have-dist+3]) {
				t.Errorf("distance %d of %d: %d", dist, have, e)
			}
		}
	}
}

func TestP13_2(t *testing.T) {
	if b, n, e := All([]byte{3, 0}, -1); b != nil || n != 0 || e != api.ErrArg {
		t.Errorf("a negative limit: %d, %d", n, e)
	}
	if b, n, e := All([]byte{3, 0, 7}, 0); len(b) != 0 || n != 2 || e != api.OK {
		t.Errorf("%d, %d", n, e)
	}
	if b, n, e := All([]byte{3}, 0); b != nil || n != 0 || e != api.ErrShort {
		t.Errorf("%d, %d", n, e)
	}
	in := []byte{1, 1, 0, 0xfe, 0xff, 'x'}
	b, _, _ := All(in, 1)
	in[5] = 'y'
	if string(b) != "x" {
		t.Error("All returned its argument's memory")
	}
}

// divided holds a machine that gets the input in pieces against one that gets it at once.
func divided(t *testing.T, b []byte, limit int, piece func() int) {
	t.Helper()
	whole, _ := New(limit)
	parts, _ := New(limit)
	want := whole.Write(b)
	var out []byte
	for rest := b; len(rest) > 0; {
		n := min(piece(), len(rest))
		e := parts.Write(rest[:n])
		rest = rest[n:]
		out = append(out, parts.Take()...)
		if e != api.OK && e != want || e == api.OK && want != api.OK && len(rest) == 0 {
			t.Fatalf("the error in pieces is %d, not %d", e, want)
		}
	}
	if !bytes.Equal(out, whole.Take()) || parts.Len() != whole.Len() || parts.Done() != whole.Done() || !bytes.Equal(parts.Rest(), whole.Rest()) {
		t.Fatal("the output in pieces differs")
	}
}

func TestP13_3(t *testing.T) {
	rnd := rand.New(rand.NewSource(133))
	some := func() int { return rnd.Intn(50) }
	one := func() int { return 1 }
	for _, b := range samples() {
		for _, level := range []int{0, 1, 6, flate.HuffmanOnly} {
			p := append(pack(t, b, level), 5, 6)
			divided(t, p, len(b), some)
			divided(t, p, len(b), one)
			divided(t, p, len(b)/2, one)
			for range 20 {
				bad := bytes.Clone(p)
				bad[rnd.Intn(len(bad))] ^= 1 << rnd.Intn(8)
				divided(t, bad, len(b)+100, some)
			}
		}
	}
	for _, c := range dynamicCases {
		divided(t, c.b(), 100, one)
	}
	for range 3000 {
		b := make([]byte, 1+rnd.Intn(100))
		rnd.Read(b)
		divided(t, b, 1000, one)
	}
}

// A prefix never has an error that the whole has not.
func TestP13_3Prefixes(t *testing.T) {
	p := pack(t, samples()[5][:3000], 6)
	p[len(p)/2] ^= 0x55
	_, _, want := All(p, 5000)
	for n := range p {
		m, _ := New(5000)
		if e := m.Write(p[:n]); e != api.OK && e != want {
			t.Fatalf("prefix of %d bytes: %d, not %d", n, e, want)
		}
	}
}

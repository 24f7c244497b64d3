package block_test

import (
	"bytes"
	"compress/flate"
	"io"
	"math"
	"math/rand"
	"slices"
	"strings"
	"testing"

	"punnet/alpha"
	"punnet/api"
	"punnet/bitout"
	. "punnet/block"
	"punnet/count"
	"punnet/inflate"
	"punnet/lazy"
	"punnet/lengths"
	"punnet/runs"
	"punnet/token"
)

func noise(seed int64, n int) []byte {
	b := make([]byte, n)
	rand.New(rand.NewSource(seed)).Read(b)
	return b
}

// samples are byte strings with tokens for them.
func samples(t *testing.T) (data [][]byte, lists [][]token.Token) {
	t.Helper()
	data = [][]byte{
		nil, []byte("a"), []byte("aaaa"), noise(1, 300), noise(2, 70000), bytes.Repeat([]byte{5}, 66000),
		[]byte(strings.Repeat("she sells sea shells on the sea shore; ", 300)), bytes.Repeat(noise(3, 700), 4),
	}
	for i, b := range data {
		list, e := lazy.Tokens(b, 0, 1+i)
		if e != api.OK {
			t.Fatal(e)
		}
		lists = append(lists, list)
	}
	return data, lists
}

func TestP18_1Stored(t *testing.T) {
	for _, n := range []int{0, 1, 65534, 65535, 65536, 131070, 131071, 200000} {
		b := noise(int64(n), n)
		for _, final := range []bool{false, true} {
			for before := range 9 {
				w := bitout.New()
				w.Put(0, before)
				PutStored(w, b, final)
				blocks := max(1, (n+65534)/65535)
				if w.Len()-before > StoredBits(n) || StoredBits(n) != 8*n+42*blocks {
					t.Fatalf("%d bytes have %d bits; StoredBits %d", n, w.Len()-before, StoredBits(n))
				}
				if before > 0 {
					continue
				}
				out := w.Finish()
				if len(out) != n+5*blocks {
					t.Fatalf("%d bytes in %d", n, len(out))
				}
				for i := range blocks {
					if (out[i*65540] == 1) != (final && i == blocks-1) || out[i*65540]&6 != 0 {
						t.Fatalf("block %d of %d bytes begins with %x", i, n, out[i*65540])
					}
				}
				m, _ := inflate.New(n)
				if e := m.Write(out); e != api.OK || !bytes.Equal(m.Take(), b) || m.Done() != final {
					t.Fatalf("%d bytes: %d", n, e)
				}
			}
		}
	}
	if StoredBits(1<<40) != 8<<40+42*16777473 {
		t.Errorf("StoredBits of 2^40: %d", StoredBits(1<<40))
	}
}

func bad() [][]token.Token {
	return [][]token.Token{{{Lit: 1, Dist: 1}}, {{Lit: 'a'}, {Len: 2, Dist: 1}}, {{Lit: 'a'}, {Len: 3, Dist: 32769}}, {{Len: 300, Dist: 1}, {Lit: 'a'}}}
}

func TestP18_Errors(t *testing.T) {
	w := bitout.New()
	for i, list := range bad() {
		if e := PutFixed(w, list, true); e != api.ErrArg {
			t.Errorf("PutFixed %d: %d", i, e)
		}
		if e := PutDynamic(w, list, true); e != api.ErrArg {
			t.Errorf("PutDynamic %d: %d", i, e)
		}
		if costs, e := Costs(list); e != api.ErrArg || costs != [3]int{} {
			t.Errorf("Costs %d: %v, %d", i, costs, e)
		}
		for n := range 4 {
			if kind, e := Put(w, list, make([]byte, n), true); e != api.ErrArg || kind != 0 {
				t.Errorf("Put %d: %d, %d", i, kind, e)
			}
		}
	}
	for _, n := range []int{0, 3, 5} {
		if kind, e := Put(w, []token.Token{{Lit: 'a'}, {Len: 3, Dist: 1}}, make([]byte, n), true); e != api.ErrArg || kind != 0 {
			t.Errorf("Put with %d bytes: %d, %d", n, kind, e)
		}
	}
	if w.Len() != 0 {
		t.Error("an error wrote bits")
	}
}

func TestP18_1Fixed(t *testing.T) {
	w := bitout.New()
	if e := PutFixed(w, nil, true); e != api.OK || w.Len() != 10 || !bytes.Equal(w.Finish(), []byte{3, 0}) {
		t.Errorf("no tokens: %d", e)
	}
	w = bitout.New()
	PutFixed(w, nil, false)
	if b := w.Finish(); !bytes.Equal(b, []byte{2, 0}) {
		t.Errorf("% x", b)
	}
	data, lists := samples(t)
	for i, list := range lists {
		w := bitout.New()
		if e := PutFixed(w, list, true); e != api.OK {
			t.Fatal(e)
		}
		table, _ := count.Of(list)
		if w.Len() != 3+table.Fixed() {
			t.Errorf("sample %d has %d bits", i, w.Len())
		}
		unpacked(t, w.Finish(), nil, data[i], 3)
	}
}

// unpacked holds blocks against the bytes that they are to be, by this and by another implementation.
func unpacked(t *testing.T, b, before, want []byte, first byte) {
	t.Helper()
	if b[0]&7 != first {
		t.Errorf("the block begins with %x", b[0]&7)
	}
	if len(before) == 0 {
		out, n, e := inflate.All(b, len(want))
		if !bytes.Equal(out, want) || n != len(b) || e != api.OK {
			t.Errorf("unpacked to %d bytes of %d, %d", len(out), len(want), e)
		}
	}
	out, err := io.ReadAll(flate.NewReaderDict(bytes.NewReader(b), before))
	if !bytes.Equal(out, want) || err != nil {
		t.Errorf("unpacked by another: %d bytes, %v", len(out), err)
	}
}

func TestP18_2HeadOf(t *testing.T) {
	right := func(n, v int) []int { return slices.Repeat([]int{v}, n) }
	for _, c := range [][2]int{{285, 30}, {287, 30}, {286, 29}, {286, 31}, {288, 32}, {0, 0}} {
		if h, e := HeadOf(right(c[0], 5), right(c[1], 16)); e != api.ErrArg || h.Lits != nil || h.Runs != nil || h.Short != nil || h.Dists != nil {
			t.Errorf("HeadOf of %v: %d", c, e)
		}
	}
	for _, v := range []int{-1, 16, math.MinInt, math.MaxInt} {
		lits, dists := right(286, 0), right(30, 0)
		lits[285] = v
		if h, e := HeadOf(lits, dists); e != api.ErrLens || h.Lits != nil {
			t.Errorf("HeadOf with a length %d: %d", v, e)
		}
		lits[285], dists[0] = 0, v
		if h, e := HeadOf(lits, dists); e != api.ErrLens || h.Lits != nil {
			t.Errorf("HeadOf with a length %d of a distance: %d", v, e)
		}
	}
	rnd := rand.New(rand.NewSource(18))
	for range 300 {
		lits, dists := right(286, 0), right(30, 0)
		for range rnd.Intn(300) {
			lits[rnd.Intn(1+rnd.Intn(286))] = rnd.Intn(16)
		}
		for range rnd.Intn(20) {
			dists[rnd.Intn(1+rnd.Intn(30))] = rnd.Intn(16)
		}
		checkHead(t, lits, dists)
	}
	for _, v := range []int{0, 1, 15} {
		checkHead(t, right(286, v), right(30, v))
		checkHead(t, right(286, 0), right(30, v))
		checkHead(t, right(286, v), right(30, 0))
	}
}

func checkHead(t *testing.T, lits, dists []int) {
	t.Helper()
	h, e := HeadOf(lits, dists)
	if e != api.OK {
		t.Fatal(e)
	}
	cut := func(got, lens []int, least int) {
		t.Helper()
		if len(got) < least || len(got) > least && got[len(got)-1] == 0 || !slices.Equal(got, lens[:len(got)]) || slices.Max(append(slices.Clone(lens[len(got):]), 0)) > 0 {
			t.Errorf("%v of %v", got, lens)
		}
	}
	cut(h.Lits, lits, 257)
	cut(h.Dists, dists, 1)
	all := slices.Concat(h.Lits, h.Dists)
	if got, e := runs.Unpack(h.Runs, len(all)); e != api.OK || !slices.Equal(got, all) {
		t.Errorf("the runs are other lengths: %d", e)
	}
	short, byRun := make([]int, 19), map[int]int{}
	for i, n := range h.Short {
		short[alpha.Order(i)] = n
	}
	if len(h.Short) < 4 || len(h.Short) > 19 || len(h.Short) > 4 && h.Short[len(h.Short)-1] == 0 || slices.Max(h.Short) > 7 {
		t.Errorf("Short: %v", h.Short)
	}
	sum := 14 + 3*len(h.Short)
	for _, r := range h.Runs {
		byRun[r.Sym]++
		sum += short[r.Sym] + runs.Bits(r.Sym)
	}
	if h.Bits() != sum {
		t.Errorf("Bits: %d, not %d", h.Bits(), sum)
	}
	for sym := range byRun {
		if short[sym] == 0 {
			t.Errorf("the symbol %d has no code", sym)
		}
	}
	room := 0
	for _, n := range short {
		if n > 0 {
			room += 128 >> n
		}
	}
	if room != 128 {
		t.Errorf("the codes of code lengths are not complete: %v", short)
	}
}

func TestP18_2Memory(t *testing.T) {
	lits, dists := slices.Repeat([]int{8}, 286), slices.Repeat([]int{5}, 30)
	h, _ := HeadOf(lits, dists)
	h.Lits[0], h.Dists[0] = 1, 1
	if lits[0] != 8 || dists[0] != 5 || h.Bits() == 0 {
		t.Error("HeadOf shares memory with its arguments")
	}
	if n := (Head{}).Bits(); n != 14 {
		t.Errorf("Bits of the zero Head: %d", n)
	}
}

func TestP18_2Dynamic(t *testing.T) {
	data, lists := samples(t)
	for i, list := range lists {
		for _, final := range []bool{true, false} {
			w := bitout.New()
			if e := PutDynamic(w, list, final); e != api.OK {
				t.Fatal(e)
			}
			table, _ := count.Of(list)
			lits, dists := table.Lens()
			h, _ := HeadOf(lits, dists)
			if w.Len() != 3+h.Bits()+table.Dynamic() {
				t.Errorf("sample %d has %d bits", i, w.Len())
			}
			if wantLits, _ := lengths.Make(table.Lits[:], 15); !slices.Equal(lits, wantLits) {
				t.Errorf("sample %d has other codes", i)
			}
			if final {
				unpacked(t, w.Finish(), nil, data[i], 5)
			} else if b := w.Finish(); b[0]&7 != 4 {
				t.Errorf("a block that is not final begins with %x", b[0]&7)
			}
		}
	}
}

func TestP18_3Costs(t *testing.T) {
	costs, e := Costs(nil)
	if costs[0] != 42 || costs[1] != 10 || costs[2] <= 10 || e != api.OK {
		t.Errorf("Costs of none: %v, %d", costs, e)
	}
	data, lists := samples(t)
	for i, list := range lists {
		costs, e := Costs(list)
		fixed, dynamic := bitout.New(), bitout.New()
		PutFixed(fixed, list, true)
		PutDynamic(dynamic, list, true)
		if e != api.OK || costs != [3]int{StoredBits(len(data[i])), fixed.Len(), dynamic.Len()} {
			t.Errorf("sample %d: %v, %d", i, costs, e)
		}
	}
}

func TestP18_3Cheapest(t *testing.T) {
	cases := []struct {
		costs [3]int
		want  int
	}{
		{[3]int{1, 2, 3}, 0}, {[3]int{2, 1, 3}, 1}, {[3]int{3, 2, 1}, 2}, {[3]int{1, 1, 1}, 0}, {[3]int{2, 1, 1}, 1},
		{[3]int{1, 2, 1}, 0}, {[3]int{}, 0}, {[3]int{0, -1, math.MinInt}, 2}, {[3]int{math.MaxInt, math.MaxInt, 0}, 2},
	}
	for _, c := range cases {
		if k := Cheapest(c.costs); k != c.want {
			t.Errorf("Cheapest(%v) = %d", c.costs, k)
		}
	}
}

func TestP18_3Put(t *testing.T) {
	data, lists := samples(t)
	kinds := map[int]bool{}
	for i, list := range lists {
		w := bitout.New()
		kind, e := Put(w, list, data[i], true)
		costs, _ := Costs(list)
		if e != api.OK || kind != Cheapest(costs) || w.Len() > costs[kind] {
			t.Errorf("sample %d: kind %d of %v, %d bits", i, kind, costs, w.Len())
		}
		kinds[kind] = true
		first := byte(1 + 2*kind)
		if kind == Stored && len(data[i]) > 65535 {
			first = 0
		}
		unpacked(t, w.Finish(), nil, data[i], first)
	}
	if len(kinds) != 3 {
		t.Errorf("only the kinds %v were written", kinds)
	}
}

func TestP18_4(t *testing.T) {
	before := noise(4, 5000)
	b := slices.Concat(before[100:200], []byte("abc"), before[4000:])
	list, _ := lazy.Tokens(slices.Concat(before, b), len(before), 6)
	put := []func(w *bitout.Writer){
		func(w *bitout.Writer) { PutStored(w, b, true) },
		func(w *bitout.Writer) { PutFixed(w, list, true) },
		func(w *bitout.Writer) { PutDynamic(w, list, true) },
	}
	for kind, f := range put {
		w := bitout.New()
		PutStored(w, before, false)
		f(w)
		all := w.Finish()
		out, n, e := inflate.All(all, len(before)+len(b))
		if !bytes.Equal(out, slices.Concat(before, b)) || n != len(all) || e != api.OK {
			t.Errorf("kind %d: %d", kind, e)
		}
	}
}

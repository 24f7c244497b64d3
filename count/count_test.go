package count_test

import (
	"math"
	"math/rand"
	"slices"
	"testing"

	"punnet/alpha"
	"punnet/api"
	. "punnet/count"
	"punnet/lengths"
	"punnet/token"
)

func random(rnd *rand.Rand, n int) []token.Token {
	list := make([]token.Token, n)
	for i := range list {
		if rnd.Intn(2) == 0 {
			list[i].Lit = byte(rnd.Intn(256))
		} else {
			list[i] = token.Token{Len: 3 + rnd.Intn(256), Dist: 1 + rnd.Intn(1<<rnd.Intn(16))}
		}
	}
	return list
}

func TestP17_1Of(t *testing.T) {
	for _, bad := range []token.Token{{Len: 2, Dist: 1}, {Lit: 1, Len: 3, Dist: 1}, {Dist: 1}, {Len: 3, Dist: 40000}} {
		if table, e := Of([]token.Token{{Lit: 'a'}, bad}); table != (Table{}) || e != api.ErrArg {
			t.Errorf("%+v: %d", bad, e)
		}
	}
	var want Table
	want.Lits[256] = 1
	if table, e := Of(nil); table != want || e != api.OK {
		t.Errorf("of none: %d", e)
	}
	want.Lits[0], want.Lits[255], want.Lits[257], want.Lits[285], want.Lits[265] = 2, 1, 1, 1, 1
	want.Dists[0], want.Dists[29], want.Dists[4] = 1, 1, 1
	want.Extra = 0 + 0 + 0 + 13 + 1 + 1
	list := []token.Token{{Lit: 0}, {Lit: 255}, {Len: 3, Dist: 1}, {Len: 258, Dist: 32768}, {Lit: 0}, {Len: 12, Dist: 6}}
	if table, e := Of(list); table != want || e != api.OK {
		t.Errorf("%+v, %d", table, e)
	}
	rnd := rand.New(rand.NewSource(17))
	for n := range 100 {
		list := random(rnd, n)
		table, _ := Of(list)
		matches, extra := 0, 0
		for _, x := range list {
			if x.Len > 0 {
				l, _ := alpha.Length(x.Len)
				d, _ := alpha.Dist(x.Dist)
				matches++
				extra += l.Bits + d.Bits
			}
		}
		if table.Total() != n+matches+1 || table.Extra != extra {
			t.Errorf("%d tokens: Total %d, Extra %d", n, table.Total(), table.Extra)
		}
	}
}

func TestP17_1Add(t *testing.T) {
	var a, b Table
	for i := range a.Lits {
		a.Lits[i], b.Lits[i] = i, 1000*i
	}
	for i := range a.Dists {
		a.Dists[i], b.Dists[i] = 2*i, 3*i
	}
	a.Extra, b.Extra = 7, 8
	for _, ends := range [][3]int{{0, 0, 0}, {0, 1, 1}, {1, 0, 1}, {1, 1, 1}, {5, 6, 10}, {0, 9, 9}, {-1, 3, 2}} {
		a.Lits[256], b.Lits[256] = ends[0], ends[1]
		sum := Add(a, b)
		for i, n := range sum.Lits {
			want := 1001 * i
			if i == 256 {
				want = ends[2]
			}
			if n != want {
				t.Fatalf("ends %v: literal %d: %d", ends, i, n)
			}
		}
		for i, n := range sum.Dists {
			if n != 5*i {
				t.Fatalf("distance %d: %d", i, n)
			}
		}
		if sum.Extra != 15 {
			t.Fatalf("Extra %d", sum.Extra)
		}
	}
	if (Table{}).Total() != 0 || (Table{Extra: 5}).Total() != 0 {
		t.Error("Total of none")
	}
}

func TestP17_2(t *testing.T) {
	table, _ := Of([]token.Token{{Lit: 'a'}, {Len: 3, Dist: 1}})
	if table.Lits[97] != 1 || table.Lits[257] != 1 || table.Lits[256] != 1 || table.Dists[0] != 1 || table.Fixed() != 27 {
		t.Errorf("Fixed: %d", table.Fixed())
	}
	// Three literals of 2, 2, 1 bits in some order, and a distance of 1 bit.
	if n := table.Dynamic(); n != 5+1 {
		t.Errorf("Dynamic: %d", n)
	}
	lits, dists := table.Lens()
	if len(lits) != 286 || len(dists) != 30 || dists[0] != 1 || slices.Max(dists) != 1 {
		t.Errorf("Lens: %v, %v", lits, dists)
	}
	list := []token.Token{{Lit: 143}, {Lit: 144}, {Lit: 255}, {Len: 115, Dist: 1}, {Len: 130, Dist: 32768}}
	table, _ = Of(list)
	if n := table.Fixed(); n != 8+9+9+(8+4+5)+(8+4+5+13)+7 {
		t.Errorf("Fixed: %d", n)
	}
	rnd := rand.New(rand.NewSource(172))
	for range 50 {
		table, _ := Of(random(rnd, rnd.Intn(3000)))
		lits, dists := table.Lens()
		wantLits, _ := lengths.Make(table.Lits[:], 15)
		wantDists, _ := lengths.Make(table.Dists[:], 15)
		if !slices.Equal(lits, wantLits) || !slices.Equal(dists, wantDists) {
			t.Error("Lens are not those of layer 7")
		}
		a, _ := lengths.Cost(table.Lits[:], lits)
		b, _ := lengths.Cost(table.Dists[:], dists)
		if table.Dynamic() != a+b+table.Extra {
			t.Errorf("Dynamic: %d", table.Dynamic())
		}
	}
	bad := Table{Extra: 3}
	bad.Lits[0], bad.Dists[5] = -1, 4
	if lits, dists := bad.Lens(); lits != nil || len(dists) != 30 || bad.Dynamic() != 4+3 {
		t.Errorf("a wrong number of a literal: %v, %v, %d", lits, dists, bad.Dynamic())
	}
	bad.Lits[0], bad.Dists[5] = 4, math.MaxInt
	if lits, dists := bad.Lens(); len(lits) != 286 || dists != nil || bad.Dynamic() != 4+3 {
		t.Errorf("a wrong number of a distance: %v, %v, %d", lits, dists, bad.Dynamic())
	}
}

func TestP17_3(t *testing.T) {
	rnd := rand.New(rand.NewSource(173))
	for n := range 60 {
		list := random(rnd, n)
		at := rnd.Intn(n + 1)
		whole, _ := Of(list)
		a, _ := Of(list[:at])
		b, _ := Of(list[at:])
		if Add(a, b) != whole {
			t.Errorf("%d tokens, divided at %d", n, at)
		}
	}
}

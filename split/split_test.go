package split_test

import (
	"math"
	"math/rand"
	"slices"
	"testing"

	"punnet/api"
	"punnet/block"
	"punnet/lazy"
	. "punnet/split"
	"punnet/token"
)

// mixed returns tokens of data of different kinds, one behind the other.
func mixed(seed int64, n int) []token.Token {
	rnd := rand.New(rand.NewSource(seed))
	var data []byte
	for len(data) < n {
		letters := 1 + rnd.Intn(256)
		first := rnd.Intn(256)
		for range rnd.Intn(3000) {
			data = append(data, byte(first+rnd.Intn(letters)))
		}
	}
	list, _ := lazy.Tokens(data, 0, int(seed)%10)
	return list
}

func bits(list []token.Token) int {
	costs, _ := block.Costs(list)
	return min(costs[0], costs[1], costs[2])
}

func checkPieces(t *testing.T, list []token.Token, pieces []Piece) {
	t.Helper()
	at := 0
	for _, p := range pieces {
		if p.From != at || p.To < p.From || p.Bits != bits(list[p.From:p.To]) {
			t.Errorf("piece %+v at %d", p, at)
		}
		at = p.To
	}
	if at != len(list) {
		t.Errorf("the pieces end at %d of %d", at, len(list))
	}
}

func TestP19_1(t *testing.T) {
	list := mixed(1, 3000)[:2000]
	for _, grain := range []int{1, 2, 3, 7, 512, 1000, 1999, 2000, 2001, math.MaxInt, 0, -1, math.MinInt} {
		for _, n := range []int{0, 1, 2, 3, 50, 511, 512, 513, 1024, 2000} {
			if grain < 7 && n > 100 {
				continue
			}
			pieces := Pieces(list[:n], grain)
			checkPieces(t, list[:n], pieces)
			g := min(max(1, grain), 5000)
			if len(pieces) != max(1, (n+g-1)/g) {
				t.Errorf("%d tokens by %d: %d pieces", n, grain, len(pieces))
			}
			for i, p := range pieces {
				if i < len(pieces)-1 && p.To-p.From != g {
					t.Errorf("%d tokens by %d: %+v", n, grain, p)
				}
			}
		}
	}
	if p := Pieces(nil, 5); !slices.Equal(p, []Piece{{Bits: 10}}) {
		t.Errorf("no tokens: %v", p)
	}
	if Bits(nil) != 0 || Bits([]Piece{{Bits: 5}, {From: 9, Bits: 7}}) != 12 {
		t.Error("Bits")
	}
}

// join is what P19.2 says, counting all tokens each time.
func join(list []token.Token, pieces []Piece) []Piece {
	var out []Piece
	for _, p := range pieces {
		out = append(out, p)
		for len(out) > 1 {
			a, b := out[len(out)-2], out[len(out)-1]
			both := Piece{a.From, b.To, bits(list[a.From:b.To])}
			if both.Bits > a.Bits+b.Bits {
				break
			}
			out = append(out[:len(out)-2], both)
		}
	}
	return out
}

func TestP19_2(t *testing.T) {
	joins, stays := 0, 0
	for seed := range int64(10) {
		list := mixed(seed, 12000)
		for _, grain := range []int{100, 512, 2000} {
			pieces := Pieces(list, grain)
			before := slices.Clone(pieces)
			joined := Join(list, pieces)
			if !slices.Equal(joined, join(list, before)) {
				t.Errorf("seed %d by %d: %v", seed, grain, joined)
			}
			if !slices.Equal(pieces, before) {
				t.Error("Join changed its argument")
			}
			joins += len(pieces) - len(joined)
			stays += len(joined) - 1
		}
	}
	if joins == 0 || stays == 0 {
		t.Errorf("%d joined, %d not", joins, stays)
	}
	if p := Join(nil, nil); len(p) != 0 {
		t.Errorf("Join of none: %v", p)
	}
	// Equal costs join.
	twice := []token.Token{{Lit: 'a'}, {Lit: 'a'}}
	whole := bits(twice)
	if p := Join(twice, []Piece{{0, 1, whole}, {1, 2, 0}}); !slices.Equal(p, []Piece{{0, 2, whole}}) {
		t.Errorf("equal costs: %v", p)
	}
	if p := Join(twice, []Piece{{0, 1, whole - 1}, {1, 2, 0}}); len(p) != 2 {
		t.Errorf("greater costs: %v", p)
	}
}

func TestP1AnyArguments(t *testing.T) {
	list := mixed(1, 100)
	Join(list, []Piece{{-5, 7, 3}, {9, 2, 1}, {math.MinInt, math.MaxInt, 0}, {math.MaxInt, math.MinInt, math.MaxInt}})
	bad := []token.Token{{Len: 1}, {Lit: 'a'}}
	Join(bad, Pieces(bad, 1))
}

func TestP19_3(t *testing.T) {
	for _, bad := range []token.Token{{Len: 2, Dist: 2}, {Dist: 5}, {Lit: 1, Len: 3, Dist: 1}} {
		if p, e := Split([]token.Token{{Lit: 'a'}, bad}); p != nil || e != api.ErrArg {
			t.Errorf("%+v: %v, %d", bad, p, e)
		}
	}
	for seed := range int64(5) {
		list := mixed(seed, 20000)
		p, e := Split(list)
		if e != api.OK || !slices.Equal(p, join(list, Pieces(list, 512))) {
			t.Errorf("seed %d: %v, %d", seed, p, e)
		}
	}
	if p, e := Split(nil); !slices.Equal(p, []Piece{{Bits: 10}}) || e != api.OK {
		t.Errorf("no tokens: %v, %d", p, e)
	}
}

func TestP19_4(t *testing.T) {
	for seed := range int64(5) {
		list := mixed(seed, 40000)
		p, _ := Split(list)
		checkPieces(t, list, p)
		if Bits(p) > Bits(Pieces(list, Grain)) {
			t.Errorf("seed %d: %d bits, before %d", seed, Bits(p), Bits(Pieces(list, Grain)))
		}
	}
}

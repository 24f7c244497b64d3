package compact_test

import (
	"bytes"
	"math"
	"math/rand"
	"slices"
	"testing"

	"punnet/chain"
	. "punnet/compact"
	"punnet/spans"
)

func span(at, n int) spans.Span {
	return spans.Span{At: at, Len: n}
}

func TestP23_1(t *testing.T) {
	moves, after := Plan([]*chain.Chain{chain.Of(span(4, 2))})
	if !slices.Equal(moves, []Move{{4, 0, 2}}) || len(after) != 1 || !slices.Equal(after[0].List(), []spans.Span{span(0, 2)}) {
		t.Errorf("%v, %v", moves, after)
	}
	if moves, after := Plan(nil); len(moves) != 0 || len(after) != 0 {
		t.Errorf("no chains: %v, %v", moves, after)
	}
	a, b, none := chain.Of(span(10, 2), span(0, 3), span(20, 1)), chain.Of(span(5, 2), span(12, 4)), chain.Of()
	moves, after = Plan([]*chain.Chain{a, none, b})
	if !slices.Equal(moves, []Move{{5, 3, 2}, {10, 5, 2}, {12, 7, 4}, {20, 11, 1}}) {
		t.Errorf("%v", moves)
	}
	want := [][]spans.Span{{span(5, 2), span(0, 3), span(11, 1)}, nil, {span(3, 2), span(7, 4)}}
	for i, w := range want {
		if !slices.Equal(after[i].List(), w) {
			t.Errorf("chain %d: %v", i, after[i].List())
		}
	}
	if !slices.Equal(a.List(), []spans.Span{span(10, 2), span(0, 3), span(20, 1)}) {
		t.Error("Plan changed its argument")
	}
	_, after = Plan([]*chain.Chain{chain.Of(span(4, 2), span(8, 3))})
	if !slices.Equal(after[0].List(), []spans.Span{span(0, 5)}) {
		t.Errorf("spans that touch afterwards: %v", after[0].List())
	}
	same := chain.Of(span(0, 3))
	moves, after = Plan([]*chain.Chain{same})
	after[0].Append(span(9, 9))
	if len(moves) != 0 || same.Len() != 3 {
		t.Error("a chain that stays is not new")
	}
}

func TestP23_2Cost(t *testing.T) {
	if Cost(nil) != 0 || Cost([]Move{{9, 0, 3}, {1, 2, 1 << 30}}) != 3+1<<30 {
		t.Error("Cost")
	}
}

func TestP23_2Right(t *testing.T) {
	cases := []struct {
		moves []Move
		want  bool
	}{
		{nil, true}, {[]Move{{1, 0, 1}}, true}, {[]Move{{1, 0, 100}}, true}, {[]Move{{5, 0, 2}, {7, 2, 2}, {20, 4, 1}}, true},
		{[]Move{{1, 0, 0}}, false}, {[]Move{{1, 0, -1}}, false}, {[]Move{{0, 0, 1}}, false}, {[]Move{{0, 1, 1}}, false}, {[]Move{{1, -1, 1}}, false},
		{[]Move{{5, 0, 2}, {6, 2, 2}}, false}, {[]Move{{5, 0, 2}, {7, 1, 2}}, false}, {[]Move{{9, 4, 2}, {7, 2, 2}}, false}, {[]Move{{9, 4, 2}, {12, 2, 2}}, false},
		{[]Move{{5, 0, 2}, {7, 2, 2}, {8, 4, 1}}, false},
		{[]Move{{math.MaxInt, 0, math.MaxInt}, {math.MaxInt, math.MaxInt - 1, 1}}, false}, {[]Move{{math.MaxInt - 1, 0, math.MaxInt}}, true},
		{[]Move{{5, math.MinInt, 2}}, false}, {[]Move{{math.MinInt, math.MinInt, 2}}, false}, {[]Move{{1, 0, 1}, {2, math.MinInt, 1}}, false},
		{[]Move{{3, 0, math.MaxInt}, {4, 1, 1}}, false},
	}
	for i, c := range cases {
		if Right(c.moves) != c.want {
			t.Errorf("case %d", i)
		}
	}
}

func TestP23_2Holes(t *testing.T) {
	cases := []struct {
		list         []*chain.Chain
		holes, bytes int
	}{
		{nil, 0, 0}, {[]*chain.Chain{chain.Of()}, 0, 0}, {[]*chain.Chain{chain.Of(span(0, 3))}, 0, 0},
		{[]*chain.Chain{chain.Of(span(2, 3))}, 1, 2}, {[]*chain.Chain{chain.Of(span(8, 1), span(2, 3))}, 2, 5},
		{[]*chain.Chain{chain.Of(span(8, 1), span(2, 3)), chain.Of(span(0, 2), span(5, 3))}, 0, 0},
		{[]*chain.Chain{chain.Of(span(8, 1), span(2, 3)), chain.Of(span(0, 1), span(6, 1))}, 3, 3},
	}
	for i, c := range cases {
		if holes, n := Holes(c.list); holes != c.holes || n != c.bytes {
			t.Errorf("case %d: %d, %d", i, holes, n)
		}
	}
}

// random returns chains that are apart.
func random(rnd *rand.Rand) []*chain.Chain {
	list := make([]*chain.Chain, 1+rnd.Intn(4))
	for i := range list {
		list[i] = chain.Of()
	}
	var all []spans.Span
	for at := rnd.Intn(3); at < 60; at += rnd.Intn(4) {
		n := 1 + rnd.Intn(5)
		all = append(all, span(at, n))
		at += n
	}
	rnd.Shuffle(len(all), func(i, k int) { all[i], all[k] = all[k], all[i] })
	for _, x := range all {
		list[rnd.Intn(len(list))].Append(x)
	}
	return list
}

func read(data []byte, c *chain.Chain) []byte {
	var b []byte
	for at := range c.Places() {
		b = append(b, data[at])
	}
	return b
}

func TestP23_3(t *testing.T) {
	rnd := rand.New(rand.NewSource(23))
	data := make([]byte, 80)
	for range 500 {
		rnd.Read(data)
		list := random(rnd)
		moves, after := Plan(list)
		if !Right(moves) {
			t.Fatalf("%v is not right", moves)
		}
		if holes, n := Holes(after); holes != 0 || n != 0 {
			t.Fatalf("%d holes are left", holes)
		}
		if holes, _ := Holes(list); (holes == 0) != (len(moves) == 0) {
			t.Fatalf("%d holes, %d moves", holes, len(moves))
		}
		moved := bytes.Clone(data)
		for _, m := range moves {
			copy(moved[m.To:m.To+m.Len], moved[m.From:m.From+m.Len])
		}
		for i := range list {
			if !bytes.Equal(read(data, list[i]), read(moved, after[i])) {
				t.Fatalf("chain %d has other bytes", i)
			}
		}
		if !chain.Apart(80, after...) {
			t.Fatal("the chains are not apart")
		}
	}
}

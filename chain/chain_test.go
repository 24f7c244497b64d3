package chain_test

import (
	"math"
	"math/rand"
	"slices"
	"testing"

	"punnet/api"
	. "punnet/chain"
	"punnet/spans"
)

type span = spans.Span

func at(from, n int) span {
	return span{At: from, Len: n}
}

func places(c *Chain) []int {
	return slices.Collect(c.Places())
}

func TestP22_1(t *testing.T) {
	var zero Chain
	if zero.Len() != 0 || zero.End() != -1 || len(zero.List()) != 0 || len(places(&zero)) != 0 || len(places(zero.Clone())) != 0 {
		t.Error("the zero Chain")
	}
	zero.Append(at(5, 2))
	if zero.Len() != 2 || zero.End() != 7 {
		t.Error("Append to the zero Chain")
	}
	cases := []struct {
		list, want []span
		end        int
	}{
		{nil, nil, -1},
		{[]span{at(0, 3), at(3, 2), at(9, 1)}, []span{at(0, 5), at(9, 1)}, 10},
		{[]span{at(3, 0), at(4, -1), at(7, math.MinInt)}, nil, -1},
		{[]span{at(3, 2), at(5, 0), at(5, 1), at(0, 3), at(3, 1)}, []span{at(3, 3), at(0, 4)}, 4},
		{[]span{at(5, 1), at(4, 1)}, []span{at(5, 1), at(4, 1)}, 5},
		{[]span{at(1, 2), at(3, -2), at(3, 1)}, []span{at(1, 3)}, 4},
		{[]span{at(2, 2), at(2, 2)}, []span{at(2, 2), at(2, 2)}, 4},
		{[]span{at(1<<40, 1<<40), at(0, 1<<40)}, []span{at(1<<40, 1<<40), at(0, 1<<40)}, 1 << 40},
	}
	for i, c := range cases {
		given := slices.Clone(c.list)
		x := Of(given...)
		clear(given)
		n := 0
		for _, s := range c.want {
			n += s.Len
		}
		if !slices.Equal(x.List(), c.want) || x.End() != c.end || x.Len() != n {
			t.Errorf("case %d: %v, %d, %d", i, x.List(), x.End(), x.Len())
		}
	}
}

func TestP1AnySpans(t *testing.T) {
	for _, first := range []int{-1, math.MinInt, math.MaxInt} {
		c := Of(at(first, 3), at(first, math.MaxInt))
		c.Append(at(first, 5))
		c.Locate(1, math.MaxInt)
		c.Cut(2)
		Apart(math.MinInt, c, c)
	}
}

func TestP22_1Places(t *testing.T) {
	c := Of(at(0, 3), at(9, 1), at(5, 2))
	seq := c.Places()
	c.Append(at(20, 1))
	for range 2 {
		if got := slices.Collect(seq); !slices.Equal(got, []int{0, 1, 2, 9, 5, 6}) {
			t.Errorf("%v", got)
		}
	}
	var got []int
	for place := range seq {
		got = append(got, place)
		if place == 9 {
			break
		}
	}
	if !slices.Equal(got, []int{0, 1, 2, 9}) {
		t.Errorf("left early: %v", got)
	}
	for place := range Of(at(7, 1<<40)).Places() {
		if place == 10 {
			break
		}
	}
}

func TestP22_1Clone(t *testing.T) {
	c := Of(at(0, 3), at(9, 1))
	d := c.Clone()
	c.Append(at(10, 1))
	d.Cut(1)
	c.List()[0] = at(7, 7)
	if !slices.Equal(c.List(), []span{at(0, 3), at(9, 2)}) || !slices.Equal(d.List(), []span{at(0, 1)}) {
		t.Errorf("%v, %v", c.List(), d.List())
	}
}

func TestP22_2Errors(t *testing.T) {
	c := Of(at(0, 3), at(9, 2))
	for _, x := range [][2]int{{-1, 0}, {6, 0}, {0, -1}, {0, 6}, {5, 1}, {3, 3}, {math.MinInt, 5}, {1, math.MaxInt}, {math.MaxInt, math.MaxInt}} {
		if l, e := c.Locate(x[0], x[1]); l != nil || e != api.ErrRange {
			t.Errorf("Locate(%d, %d): %v, %d", x[0], x[1], l, e)
		}
	}
	for _, n := range []int{-1, 6, math.MinInt, math.MaxInt} {
		if l, e := c.Cut(n); l != nil || e != api.ErrRange || c.Len() != 5 {
			t.Errorf("Cut(%d): %v, %d", n, l, e)
		}
	}
}

func TestP22_2Locate(t *testing.T) {
	c := Of(at(10, 3), at(0, 2), at(20, 4))
	if l, _ := c.Locate(1, 5); !slices.Equal(l, []span{at(11, 2), at(0, 2), at(20, 1)}) {
		t.Errorf("%v", l)
	}
	all := places(c)
	for from := 0; from <= 9; from++ {
		for n := 0; n <= 9-from; n++ {
			l, e := c.Locate(from, n)
			var got []int
			for _, x := range l {
				if x.Len < 1 || !slices.ContainsFunc(c.List(), func(y span) bool { return x.At >= y.At && x.End() <= y.End() }) {
					t.Errorf("Locate(%d, %d): %v", from, n, l)
				}
				for i := range x.Len {
					got = append(got, x.At+i)
				}
			}
			if e != api.OK || !slices.Equal(got, all[from:from+n]) || len(l) > 3 {
				t.Errorf("Locate(%d, %d): %v, %d", from, n, l, e)
			}
		}
	}
}

func TestP22_3(t *testing.T) {
	cases := []struct {
		size  int
		lists [][]span
		want  bool
	}{
		{0, nil, true}, {-5, nil, true}, {0, [][]span{nil, nil}, true},
		{5, [][]span{{at(0, 5)}}, true}, {4, [][]span{{at(0, 5)}}, false}, {0, [][]span{{at(0, 1)}}, false},
		{9, [][]span{{at(0, 2), at(4, 1)}, {at(2, 2), at(5, 4)}}, true},
		{9, [][]span{{at(0, 2), at(4, 1)}, {at(1, 1)}}, false}, {9, [][]span{{at(0, 2), at(4, 3)}, {at(6, 1)}}, false},
		{9, [][]span{{at(3, 2), at(2, 2)}}, false}, {9, [][]span{{at(3, 2), at(3, 2)}}, false}, {9, [][]span{{at(3, 2), at(1, 2)}}, true},
		{9, [][]span{{at(0, 8)}, {at(2, 1)}, {at(3, 1)}}, false}, {1 << 41, [][]span{{at(1<<40, 1<<40)}, {at(0, 1<<40)}}, true},
	}
	for i, c := range cases {
		var list []*Chain
		for _, l := range c.lists {
			list = append(list, Of(l...))
		}
		if Apart(c.size, list...) != c.want {
			t.Errorf("case %d", i)
		}
	}
	c := Of(at(0, 2))
	if Apart(9, c, c) {
		t.Error("a chain is not apart from itself")
	}
}

func TestP22_4(t *testing.T) {
	rnd := rand.New(rand.NewSource(22))
	for range 500 {
		c := &Chain{}
		for range rnd.Intn(6) {
			c.Append(at(rnd.Intn(50), rnd.Intn(6)-1))
		}
		before := places(c)
		n := rnd.Intn(c.Len() + 1)
		behind, e := c.Cut(n)
		if e != api.OK || c.Len() != n || !slices.Equal(places(c), before[:n]) || !slices.Equal(places(Of(behind...)), before[n:]) {
			t.Fatalf("Cut(%d) of %v: %v, %v", n, before, places(c), behind)
		}
	}
}

package lengths_test

import (
	"math"
	"math/rand"
	"slices"
	"testing"

	"punnet/api"
	. "punnet/lengths"
)

func ones(n int) []int {
	return slices.Repeat([]int{1}, n)
}

func TestP7_1(t *testing.T) {
	cases := []struct {
		counts []int
		limit  int
		want   api.Errno
	}{
		{nil, 0, api.ErrArg}, {nil, 16, api.ErrArg}, {nil, -1, api.ErrArg}, {nil, math.MaxInt, api.ErrArg},
		{nil, 1, api.OK}, {nil, 15, api.OK},
		{ones(1024), 10, api.OK}, {ones(1024), 9, api.ErrFull}, {make([]int, 1024), 1, api.OK},
		{make([]int, 1025), 15, api.ErrArg}, {ones(1025), 1, api.ErrArg},
		{[]int{-1}, 3, api.ErrArg}, {[]int{MaxCount}, 3, api.OK}, {[]int{MaxCount + 1}, 3, api.ErrArg},
		{[]int{1, 1}, 1, api.OK}, {[]int{1, 1, 1}, 1, api.ErrFull}, {[]int{1, 0, 1, 0}, 1, api.OK},
		{[]int{1, 1, 1, -1}, 1, api.ErrArg}, {ones(32), 5, api.OK}, {ones(33), 5, api.ErrFull},
	}
	for i, c := range cases {
		if e := Check(c.counts, c.limit); e != c.want {
			t.Errorf("case %d: %d", i, e)
		}
		lens, e := Make(c.counts, c.limit)
		if e != c.want || e != api.OK && lens != nil {
			t.Errorf("case %d: Make: %v, %d", i, lens, e)
		}
	}
}

// least returns the cost of the best complete code, by trying all numbers of codes of each length.
func least(counts []int, limit int) int {
	var sorted []int
	for _, c := range counts {
		if c > 0 {
			sorted = append(sorted, c)
		}
	}
	slices.Sort(sorted)
	slices.Reverse(sorted)
	best := math.MaxInt
	var try func(i, n, room, cost int)
	try = func(i, n, room, cost int) {
		if i == len(sorted) {
			if room == 0 {
				best = min(best, cost)
			}
			return
		}
		for k := n; k <= limit; k++ {
			if r := room - 1<<(limit-k); r >= 0 {
				try(i+1, k, r, cost+k*sorted[i])
			}
		}
	}
	try(0, 1, 1<<limit, 0)
	return best
}

func occurring(counts []int) int {
	n := 0
	for _, c := range counts {
		if c > 0 {
			n++
		}
	}
	return n
}

func checkCode(t *testing.T, counts, lens []int, limit int) {
	t.Helper()
	sum, occur := 0, 0
	for i, n := range lens {
		if (counts[i] == 0) != (n == 0) || n < 0 || n > limit {
			t.Fatalf("counts %v limit %d: lengths %v", counts, limit, lens)
		}
		if n > 0 {
			sum += 1 << (limit - n)
			occur++
		}
		for k, m := range lens {
			if counts[i] > counts[k] && counts[k] > 0 && n > m {
				t.Fatalf("counts %v limit %d: lengths %v: %d is longer than %d", counts, limit, lens, i, k)
			}
		}
	}
	if occur > 1 && sum != 1<<limit {
		t.Fatalf("counts %v limit %d: lengths %v are not complete", counts, limit, lens)
	}
}

func TestP7_2(t *testing.T) {
	if lens, e := Make([]int{1, 1, 2}, 15); !slices.Equal(lens, []int{2, 2, 1}) || e != api.OK {
		t.Errorf("%v, %d", lens, e)
	}
	if lens, e := Make([]int{0, 0, 5, 0}, 1); !slices.Equal(lens, []int{0, 0, 1, 0}) || e != api.OK {
		t.Errorf("%v, %d", lens, e)
	}
	if lens, e := Make([]int{0, 0}, 7); !slices.Equal(lens, []int{0, 0}) || e != api.OK {
		t.Errorf("%v, %d", lens, e)
	}
	if lens, e := Make(nil, 7); len(lens) != 0 || e != api.OK {
		t.Errorf("%v, %d", lens, e)
	}
	rnd := rand.New(rand.NewSource(7))
	for range 3000 {
		limit := 1 + rnd.Intn(5)
		counts := make([]int, rnd.Intn(min(9, 1<<limit+1)))
		for i := range counts {
			counts[i] = rnd.Intn(1 << rnd.Intn(12))
		}
		before := slices.Clone(counts)
		lens, e := Make(counts, limit)
		if e != api.OK {
			t.Fatalf("%v limit %d: %d", counts, limit, e)
		}
		if !slices.Equal(counts, before) {
			t.Fatal("Make changed its argument")
		}
		checkCode(t, counts, lens, limit)
		if occurring(counts) > 1 {
			if cost, _ := Cost(counts, lens); cost != least(counts, limit) {
				t.Fatalf("%v limit %d: cost %d, not %d", counts, limit, cost, least(counts, limit))
			}
		}
	}
}

func TestP7_2Great(t *testing.T) {
	fib := []int{1, 1}
	for len(fib) < 40 {
		fib = append(fib, fib[len(fib)-1]+fib[len(fib)-2])
	}
	for limit := 6; limit <= 15; limit++ {
		lens, e := Make(fib, limit)
		if e != api.OK || slices.Max(lens) != limit {
			t.Errorf("limit %d: %v, %d", limit, lens, e)
		}
		checkCode(t, fib, lens, limit)
	}
	most := slices.Repeat([]int{MaxCount}, MaxSymbols)
	lens, e := Make(most, 10)
	if e != api.OK || !slices.Equal(lens, slices.Repeat([]int{10}, MaxSymbols)) {
		t.Errorf("as many as may be: %d", e)
	}
	most[0] = 1
	lens, _ = Make(most, 15)
	checkCode(t, most, lens, 15)
}

func TestP7_3(t *testing.T) {
	cases := []struct {
		counts, lens []int
		cost         int
		e            api.Errno
	}{
		{nil, nil, 0, api.OK},
		{[]int{1, 2, 3}, []int{3, 0, 15}, 48, api.OK},
		{[]int{1, 2}, []int{1}, 0, api.ErrArg}, {[]int{1}, []int{1, 2}, 0, api.ErrArg},
		{[]int{5, -1}, []int{1, 1}, 0, api.ErrArg}, {[]int{MaxCount + 1}, []int{0}, 0, api.ErrArg},
		{[]int{MaxCount, 1}, []int{15, 1}, 15*MaxCount + 1, api.OK},
		{[]int{1, 1}, []int{1, 16}, 0, api.ErrArg}, {[]int{1, 1}, []int{1, -1}, 0, api.ErrArg},
		{make([]int, 1024), make([]int, 1024), 0, api.OK}, {make([]int, 1025), make([]int, 1025), 0, api.ErrArg},
	}
	for i, c := range cases {
		if cost, e := Cost(c.counts, c.lens); cost != c.cost || e != c.e {
			t.Errorf("case %d: %d, %d", i, cost, e)
		}
	}
}

func TestP7_4(t *testing.T) {
	rnd := rand.New(rand.NewSource(74))
	for range 200 {
		counts := make([]int, 2+rnd.Intn(284))
		for i := range counts {
			counts[i] = rnd.Intn(1 << rnd.Intn(20))
		}
		lens, e := Make(counts, 9+rnd.Intn(7))
		if e != api.OK {
			t.Fatal(e)
		}
		checkCode(t, counts, lens, 15)
	}
}

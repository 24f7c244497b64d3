package runs_test

import (
	"math"
	"math/rand"
	"slices"
	"testing"

	"punnet/api"
	. "punnet/runs"
)

func TestP11_1Bits(t *testing.T) {
	for sym := -3; sym <= 22; sym++ {
		want := -1
		switch {
		case sym >= 0 && sym <= 15:
			want = 0
		case sym == 16:
			want = 2
		case sym == 17:
			want = 3
		case sym == 18:
			want = 7
		}
		if n := Bits(sym); n != want {
			t.Errorf("Bits(%d) = %d", sym, n)
		}
	}
	if Bits(math.MinInt) != -1 || Bits(math.MaxInt) != -1 {
		t.Error("Bits at the edges")
	}
}

// stands returns what a run stands for behind lengths; false: it is not permitted there.
func stands(lens []int, r Run) ([]int, bool) {
	switch {
	case r.Sym >= 0 && r.Sym <= 15 && r.Extra == 0:
		return []int{r.Sym}, true
	case r.Sym == 16 && r.Extra >= 0 && r.Extra <= 3 && len(lens) > 0:
		return slices.Repeat(lens[len(lens)-1:], 3+r.Extra), true
	case r.Sym == 17 && r.Extra >= 0 && r.Extra <= 7:
		return make([]int, 3+r.Extra), true
	case r.Sym == 18 && r.Extra >= 0 && r.Extra <= 127:
		return make([]int, 11+r.Extra), true
	}
	return nil, false
}

func TestP11_1Add(t *testing.T) {
	if lens, e := Add([]int{7}, Run{Sym: Again}, 4); !slices.Equal(lens, []int{7, 7, 7, 7}) || e != api.OK {
		t.Errorf("%v, %d", lens, e)
	}
	for _, lens := range [][]int{nil, {7}, {1, 2, 3}, {5, 0}} {
		for sym := -2; sym <= 20; sym++ {
			for extra := -2; extra <= 130; extra++ {
				r := Run{Sym: sym, Extra: extra}
				more, is := stands(lens, r)
				want := slices.Concat(lens, more)
				for _, most := range []int{len(want), len(want) - 1, math.MaxInt, 0, -1, math.MinInt} {
					list, e := Add(lens, r, most)
					if is && len(want) <= most {
						if !slices.Equal(list, want) || e != api.OK {
							t.Fatalf("Add(%v, %v, %d) = %v, %d", lens, r, most, list, e)
						}
					} else if !slices.Equal(list, lens) || e != api.ErrLens {
						t.Fatalf("Add(%v, %v, %d) = %v, %d", lens, r, most, list, e)
					}
				}
			}
		}
	}
	spare := append(make([]int, 0, 9), 3)
	list, _ := Add(spare, Run{Sym: 4}, 9)
	list[0] = 8
	same, _ := Add(spare, Run{Sym: 99}, 9)
	same[0] = 8
	if spare[0] != 3 || spare[:2][1] != 0 {
		t.Errorf("Add changed its argument: %v", spare[:2])
	}
}

func TestP11_2Unpack(t *testing.T) {
	cases := []struct {
		list []Run
		many int
		want []int
		e    api.Errno
	}{
		// A run that is wrong is not passed over.
		{[]Run{{19, 0}, {1, 0}}, 1, nil, api.ErrLens}, {[]Run{{16, 0}, {1, 0}}, 1, nil, api.ErrLens}, {[]Run{{1, 0}, {18, 0}}, 1, nil, api.ErrLens},
		{nil, 0, nil, api.OK}, {nil, 1, nil, api.ErrLens}, {nil, -1, nil, api.ErrLens},
		{[]Run{{3, 0}, {16, 1}, {17, 0}}, 8, []int{3, 3, 3, 3, 3, 0, 0, 0}, api.OK},
		{[]Run{{3, 0}, {16, 1}, {17, 0}}, 7, nil, api.ErrLens},
		{[]Run{{3, 0}, {16, 1}, {17, 0}}, 9, nil, api.ErrLens},
		{[]Run{{16, 0}}, 3, nil, api.ErrLens}, {[]Run{{3, 1}}, 1, nil, api.ErrLens}, {[]Run{{19, 0}}, 1, nil, api.ErrLens},
		{[]Run{{18, 127}}, 138, make([]int, 138), api.OK}, {[]Run{{18, 128}}, 139, nil, api.ErrLens},
		{[]Run{{3, 0}}, math.MaxInt, nil, api.ErrLens}, {[]Run{{3, 0}}, math.MinInt, nil, api.ErrLens},
	}
	for i, c := range cases {
		if lens, e := Unpack(c.list, c.many); !slices.Equal(lens, c.want) || e != c.e {
			t.Errorf("case %d: %v, %d", i, lens, e)
		}
	}
}

func TestP11_2Pack(t *testing.T) {
	for _, lens := range [][]int{{-1}, {16}, {1, 2, 99}, {0, math.MinInt}} {
		if list, e := Pack(lens); list != nil || e != api.ErrLens {
			t.Errorf("Pack(%v) = %v, %d", lens, list, e)
		}
	}
	if list, e := Pack(nil); len(list) != 0 || e != api.OK {
		t.Errorf("Pack of none: %v, %d", list, e)
	}
}

func packed(t *testing.T, lens []int) []Run {
	t.Helper()
	list, e := Pack(lens)
	if e != api.OK || len(list) > len(lens) {
		t.Fatalf("Pack(%v) = %v, %d", lens, list, e)
	}
	if got, e := Unpack(list, len(lens)); !slices.Equal(got, lens) || e != api.OK {
		t.Fatalf("Unpack(%v) = %v, %d", list, got, e)
	}
	return list
}

func TestP11_3(t *testing.T) {
	for n := range 300 {
		if list := packed(t, make([]int, n)); n >= 11 && len(list) >= n {
			t.Errorf("%d zeros: %v", n, list)
		}
		packed(t, slices.Repeat([]int{15}, n))
		packed(t, slices.Concat([]int{2}, make([]int, n), []int{3}))
	}
	rnd := rand.New(rand.NewSource(11))
	for range 500 {
		var lens []int
		for len(lens) < 316 {
			lens = append(lens, slices.Repeat([]int{rnd.Intn(16) * rnd.Intn(2)}, rnd.Intn(20))...)
		}
		packed(t, lens)
	}
}

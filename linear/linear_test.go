package linear_test

import (
	"math/rand"
	"slices"
	"testing"

	"punnet/api"
	. "punnet/linear"
)

func put(name string, told bool, begin, end int) Call {
	return Call{Kind: Put, Name: name, Told: told, Begin: begin, End: end}
}

func has(name string, told bool, begin, end int) Call {
	return Call{Kind: Has, Name: name, Told: told, Begin: begin, End: end}
}

func list(begin, end int, names ...string) Call {
	return Call{Kind: List, Names: names, Begin: begin, End: end}
}

func TestP43_1(t *testing.T) {
	for _, kind := range []int{Put, Has, List, 0, 9} {
		for _, end := range []int{-5, -1, 0, 3} {
			c := Call{Kind: kind, End: end}
			if c.Must() != (end >= 0) || c.Can() != (end >= 0 || kind == Put) {
				t.Errorf("%+v: %v, %v", c, c.Must(), c.Can())
			}
		}
	}
	cases := []struct {
		end, begin int
		want       bool
	}{{1, 2, true}, {2, 2, false}, {3, 2, false}, {-1, 2, false}, {0, 1, true}, {-5, -1, false}}
	for _, c := range cases {
		if Before(Call{End: c.end, Begin: 100}, Call{Begin: c.begin, End: -1}) != c.want {
			t.Errorf("%+v", c)
		}
	}
}

func TestP43_2(t *testing.T) {
	a := put("a", true, 0, 1)
	cases := []struct {
		calls []Call
		order []int
		want  bool
	}{
		{nil, nil, true}, {nil, []int{0}, false}, {[]Call{a}, nil, false}, {[]Call{a}, []int{0}, true}, {[]Call{a}, []int{0, 0}, false}, {[]Call{a}, []int{-1}, false}, {[]Call{a}, []int{0, 1}, false},
		// Calls that did not end.
		{[]Call{put("a", true, 0, -1)}, nil, true}, {[]Call{put("a", false, 0, -1)}, []int{0}, true}, {[]Call{has("a", false, 0, -1)}, nil, true}, {[]Call{has("a", false, 0, -1)}, []int{0}, false}, {[]Call{list(0, -1)}, []int{0}, false},
		{[]Call{a, put("a", false, 0, -1)}, []int{0, 1}, false}, {[]Call{a, put("a", false, 0, -1)}, []int{0}, true}, {[]Call{put("a", false, 0, 5), put("a", false, 0, -1)}, []int{1, 0}, true},
		// Results.
		{[]Call{put("a", false, 0, 1)}, []int{0}, false}, {[]Call{a, put("a", true, 0, 1)}, []int{0, 1}, false}, {[]Call{a, put("a", false, 0, 1)}, []int{0, 1}, true}, {[]Call{a, put("a", false, 0, 1)}, []int{1, 0}, false},
		{[]Call{a, has("a", true, 0, 1)}, []int{0, 1}, true}, {[]Call{a, has("a", true, 0, 1)}, []int{1, 0}, false}, {[]Call{a, has("a", false, 0, 1)}, []int{1, 0}, true}, {[]Call{a, has("a", false, 0, 1)}, []int{0, 1}, false}, {[]Call{a, has("b", false, 0, 1)}, []int{0, 1}, true},
		{[]Call{a, put("b", true, 0, 1), list(0, 1, "b", "a")}, []int{1, 0, 2}, true}, {[]Call{a, put("b", true, 0, 1), list(0, 1, "b", "a")}, []int{0, 1, 2}, false}, {[]Call{a, put("b", true, 0, 1), list(0, 1, "b")}, []int{1, 2, 0}, true},
		{[]Call{list(0, 1)}, []int{0}, true}, {[]Call{list(0, 1, "")}, []int{0}, false}, {[]Call{a, put("a", false, 0, 1), list(0, 1, "a")}, []int{0, 1, 2}, true},
		// Other kinds.
		{[]Call{{Kind: 4, End: 1}}, []int{0}, false}, {[]Call{{Kind: 4, End: -1}}, nil, true}, {[]Call{{Kind: 0, End: 0}}, nil, false},
		// Those that ended before.
		{[]Call{a, has("b", false, 2, 3)}, []int{0, 1}, true}, {[]Call{a, has("b", false, 2, 3)}, []int{1, 0}, false}, {[]Call{a, has("b", false, 1, 3)}, []int{1, 0}, true},
		{[]Call{put("a", true, 0, -1), has("b", false, 9, 9), has("c", false, 3, 4)}, []int{2, 1}, true}, {[]Call{put("a", true, 5, -1), has("b", false, 0, 4)}, []int{0, 1}, false}, {[]Call{put("a", true, 5, -1), has("b", false, 0, 4)}, []int{1, 0}, true},
		{[]Call{has("a", false, 5, 1)}, []int{0}, true}, {[]Call{has("a", false, 5, 1), has("b", false, 5, 1)}, []int{0, 1}, false},
	}
	for i, c := range cases {
		if Fits(c.calls, c.order) != c.want {
			t.Errorf("case %d: %+v, %v", i, c.calls, c.order)
		}
	}
	many := slices.Repeat([]Call{has("a", false, 0, 1)}, 20)
	order := make([]int, 20)
	for i := range order {
		order[i] = 19 - i
	}
	if !Fits(many, order) || Fits(many, order[1:]) {
		t.Error("more calls than are searched")
	}
}

// all returns all orders of calls, in ascending order, each after its prefixes.
func all(n int) [][]int {
	var out [][]int
	var extend func(order []int)
	extend = func(order []int) {
		out = append(out, order)
		for i := range n {
			if !slices.Contains(order, i) {
				extend(append(slices.Clone(order), i))
			}
		}
	}
	extend(nil)
	return out
}

func TestP43_3(t *testing.T) {
	if order, e := Search([]Call{has("a", true, 0, 1)}); order != nil || e != api.ErrMissing {
		t.Errorf("%v, %d", order, e)
	}
	if order, e := Search(nil); len(order) != 0 || e != api.OK {
		t.Errorf("%v, %d", order, e)
	}
	many := slices.Repeat([]Call{has("a", true, 0, 1)}, 9)
	if order, e := Search(many); order != nil || e != api.ErrLong {
		t.Errorf("%v, %d", order, e)
	}
	if order, e := Search(many[:8]); order != nil || e != api.ErrMissing {
		t.Errorf("%v, %d", order, e)
	}
	calls := []Call{put("a", true, 0, -1), put("b", true, 0, -1), has("b", true, 0, 5)}
	if order, e := Search(calls); !slices.Equal(order, []int{0, 1, 2}) || e != api.OK {
		t.Errorf("%v, %d", order, e)
	}
	calls[2] = list(0, 5, "b")
	if order, e := Search(calls); !slices.Equal(order, []int{1, 2}) || e != api.OK {
		t.Errorf("%v, %d", order, e)
	}
	if order, e := Search(calls[:2]); len(order) != 0 || e != api.OK {
		t.Errorf("%v, %d", order, e)
	}
	rnd := rand.New(rand.NewSource(43))
	found := 0
	for range 600 {
		calls := make([]Call, rnd.Intn(6))
		for i := range calls {
			begin := rnd.Intn(10)
			calls[i] = Call{Kind: 1 + rnd.Intn(3), Name: string(rune('a' + rnd.Intn(2))), Told: rnd.Intn(2) == 0, Begin: begin, End: begin + rnd.Intn(5)}
			if rnd.Intn(4) == 0 {
				calls[i].End = -1
			}
			if calls[i].Kind == List {
				calls[i].Names = [][]string{nil, {"a"}, {"b"}, {"a", "b"}, {"b", "a"}}[rnd.Intn(5)]
			}
		}
		orders := all(len(calls))
		k := slices.IndexFunc(orders, func(o []int) bool { return Fits(calls, o) })
		order, e := Search(calls)
		if k < 0 {
			if order != nil || e != api.ErrMissing {
				t.Fatalf("%+v: %v, %d", calls, order, e)
			}
			continue
		}
		found++
		if !slices.Equal(order, orders[k]) || e != api.OK || !Fits(calls, order) {
			t.Fatalf("%+v: %v, %d, not %v", calls, order, e, orders[k])
		}
	}
	if found < 50 {
		t.Errorf("only %d were found", found)
	}
}

func TestP43_3ByEnd(t *testing.T) {
	calls := []Call{{End: 5}, {End: -1}, {End: 3}, {End: 5}, {End: 0}, {End: -9}, {End: 3}}
	if order := ByEnd(calls); !slices.Equal(order, []int{4, 2, 6, 0, 3}) {
		t.Errorf("%v", order)
	}
	if len(ByEnd(nil)) != 0 {
		t.Error("ByEnd of none")
	}
}

// Calls that are carried out one after another fit in that order, and Search finds some order.
func TestP43_4(t *testing.T) {
	rnd := rand.New(rand.NewSource(434))
	for range 300 {
		var names []string
		calls := make([]Call, rnd.Intn(9))
		for i := range calls {
			c := Call{Kind: 1 + rnd.Intn(3), Name: string(rune('a' + rnd.Intn(3))), Begin: 2*i - rnd.Intn(4), End: 2*i + rnd.Intn(4)}
			there := slices.Contains(names, c.Name)
			switch c.Kind {
			case Put:
				c.Told = !there
				if !there {
					names = append(names, c.Name)
				}
			case Has:
				c.Told = there
			case List:
				c.Names = slices.Clone(names)
			}
			calls[i] = c
		}
		order, e := Search(calls)
		if e != api.OK || !Fits(calls, order) || len(order) != len(calls) {
			t.Fatalf("%+v: %v, %d", calls, order, e)
		}
	}
}

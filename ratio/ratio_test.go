package ratio_test

import (
	"math"
	"math/rand"
	"slices"
	"testing"

	. "punnet/ratio"
)

var (
	nan   = math.NaN()
	inf   = math.Inf(1)
	deep  = math.Inf(-1)
	under = math.Copysign(0, -1)
)

// same holds the bits of numbers against each other, except for those of NaN.
func same(a, b float64) bool {
	return math.IsNaN(a) && math.IsNaN(b) || math.Float64bits(a) == math.Float64bits(b)
}

func TestP44_1Share(t *testing.T) {
	cases := []struct {
		packed, size int
		want         float64
	}{
		{0, 0, nan}, {1, 0, inf}, {-1, 0, deep}, {0, 5, 0}, {0, -5, under}, {1, 2, 0.5}, {-1, 2, -0.5}, {1, 3, 1.0 / 3}, {7, 7, 1}, {3, 2, 1.5},
		{1<<53 + 1, 1, 1 << 53}, {math.MaxInt, 1, 1 << 63}, {math.MinInt, math.MinInt, 1},
	}
	for _, c := range cases {
		if f := Share(c.packed, c.size); !same(f, c.want) {
			t.Errorf("Share(%d, %d) = %v", c.packed, c.size, f)
		}
		want := 1 - c.want
		if f := Saved(c.packed, c.size); !same(f, want) {
			t.Errorf("Saved(%d, %d) = %v", c.packed, c.size, f)
		}
	}
	if !same(Saved(7, 7), 0) || !same(Saved(0, -5), 1) || !same(Saved(1, 0), deep) {
		t.Error("Saved")
	}
}

// classes lists numbers of each class, ascending within it.
var classes = [][]float64{
	{nan, math.Float64frombits(0xfff8000000000001)}, {deep}, {-math.MaxFloat64, -1.5, -1, -math.SmallestNonzeroFloat64}, {under}, {0}, {math.SmallestNonzeroFloat64, 0.5, 1, math.MaxFloat64}, {inf},
}

func TestP44_1Class(t *testing.T) {
	signs := []int{0, -1, -1, -1, 0, 1, 1}
	for class, list := range classes {
		for _, f := range list {
			if Class(f) != class || Sign(f) != signs[class] {
				t.Errorf("%v: Class %d, Sign %d", f, Class(f), Sign(f))
			}
		}
	}
	if Class(Share(0, 0)) != Odd || Class(Share(0, -1)) != Under || Class(Share(2, 0)) != Height || Class(Share(-2, 0)) != Depth {
		t.Error("Class of Share")
	}
}

func TestP44_2Compare(t *testing.T) {
	var all []float64
	for _, list := range classes[1:] {
		all = append(all, list...)
	}
	for i, a := range all {
		for k, b := range all {
			want := 0
			if i < k {
				want = -1
			} else if i > k {
				want = 1
			}
			if Compare(a, b) != want {
				t.Errorf("Compare(%v, %v) = %d", a, b, Compare(a, b))
			}
		}
		if Compare(nan, a) != -1 || Compare(a, nan) != 1 {
			t.Errorf("Compare of NaN and %v", a)
		}
	}
	if Compare(classes[0][0], classes[0][1]) != 0 {
		t.Error("Compare of NaN")
	}
}

func equal(a, b []float64) bool {
	return slices.EqualFunc(a, b, same)
}

func TestP44_2Sort(t *testing.T) {
	in := []float64{1, 0, nan, under, inf, -1, deep, 0.5, under, 0}
	before := slices.Clone(in)
	want := []float64{nan, deep, -1, under, under, 0, 0, 0.5, 1, inf}
	if got := Sort(in...); !equal(got, want) || !equal(in, before) {
		t.Errorf("Sort: %v", got)
	}
	if len(Sort()) != 0 {
		t.Error("Sort of none")
	}
	first, second := math.Float64frombits(0x7ff8000000000001), math.Float64frombits(0x7ff8000000000002)
	if got := Sort(1, second, first); math.Float64bits(got[0]) != math.Float64bits(second) || math.Float64bits(got[1]) != math.Float64bits(first) {
		t.Error("equal numbers do not keep their order")
	}
}

func TestP44_2Median(t *testing.T) {
	cases := []struct {
		list []float64
		want float64
	}{
		{nil, nan}, {[]float64{3}, 3}, {[]float64{3, 1}, 1}, {[]float64{3, 1, 2}, 2}, {[]float64{4, 3, 1, 2}, 2}, {[]float64{nan, 1, 2}, 1}, {[]float64{nan, 1}, nan}, {[]float64{0, under}, under}, {[]float64{inf, deep, 0}, 0},
	}
	for _, c := range cases {
		if f := Median(c.list...); !same(f, c.want) {
			t.Errorf("Median of %v: %v", c.list, f)
		}
	}
	in := []float64{3, 1, 2}
	Median(in...)
	if in[0] != 3 {
		t.Error("Median changed its argument")
	}
}

func TestP44_3(t *testing.T) {
	sums := []struct {
		list      []float64
		sum, mean float64
	}{
		{nil, 0, nan}, {[]float64{under}, 0, 0}, {[]float64{1, 2, 4}, 7, 7.0 / 3}, {[]float64{inf, deep}, nan, nan}, {[]float64{1, nan}, nan, nan}, {[]float64{inf, 1}, inf, inf},
		{[]float64{1e16, 1, 1}, 1e16, 1e16 / 3}, {[]float64{1, 1, 1e16}, 1e16 + 2, (1e16 + 2) / 3}, {[]float64{math.MaxFloat64, math.MaxFloat64, -math.MaxFloat64}, inf, inf},
	}
	for _, c := range sums {
		if f := Sum(c.list...); !same(f, c.sum) {
			t.Errorf("Sum of %v: %v", c.list, f)
		}
		if f := Mean(c.list...); !same(f, c.mean) {
			t.Errorf("Mean of %v: %v", c.list, f)
		}
	}
	if got := Finite(1, nan, inf, under, deep, -5, 0); !equal(got, []float64{1, under, -5, 0}) {
		t.Errorf("Finite: %v", got)
	}
	if len(Finite()) != 0 || len(Finite(nan, inf)) != 0 {
		t.Error("Finite of none")
	}
	clamps := [][2]float64{{nan, 0}, {deep, 0}, {-1, 0}, {under, 0}, {0, 0}, {0.25, 0.25}, {math.SmallestNonzeroFloat64, math.SmallestNonzeroFloat64}, {1, 1}, {math.Nextafter(1, 2), 1}, {7, 1}, {inf, 1}}
	for _, c := range clamps {
		if f := Clamp(c[0]); !same(f, c[1]) {
			t.Errorf("Clamp(%v) = %v", c[0], f)
		}
	}
}

func TestP44_3Percent(t *testing.T) {
	cases := []struct{ packed, size, want int }{
		{1, 3, 33}, {2, 3, 66}, {0, 0, 0}, {5, 0, 100}, {-5, 0, 0}, {-1, 3, 0}, {1, 1, 100}, {999, 1000, 99}, {1000, 1, 100}, {0, 9, 0}, {1, 100, 1}, {1, 101, 0}, {math.MaxInt, 1, 100}, {1, math.MinInt, 0},
		// Products that are rounded to less than the whole number.
		{29, 100, 28}, {57, 100, 56}, {58, 100, 57}, {7, 100, 7}, {28, 100, 28},
	}
	for _, c := range cases {
		if Percent(c.packed, c.size) != c.want {
			t.Errorf("Percent(%d, %d) = %d", c.packed, c.size, Percent(c.packed, c.size))
		}
	}
}

func TestP44_4(t *testing.T) {
	rnd := rand.New(rand.NewSource(44))
	some := func() float64 {
		list := classes[rnd.Intn(len(classes))]
		return list[rnd.Intn(len(list))]
	}
	for range 3000 {
		a, b, c := some(), some(), some()
		if Compare(a, b) != -Compare(b, a) || Compare(a, b) <= 0 && Compare(b, c) <= 0 && Compare(a, c) > 0 {
			t.Fatalf("%v, %v, %v are not ordered", a, b, c)
		}
	}
	for range 200 {
		list := make([]float64, rnd.Intn(30))
		for i := range list {
			list[i] = some()
		}
		sorted := Sort(list...)
		rnd.Shuffle(len(list), func(i, k int) { list[i], list[k] = list[k], list[i] })
		if !equal(Sort(list...), sorted) {
			t.Fatalf("%v and %v", Sort(list...), sorted)
		}
	}
}

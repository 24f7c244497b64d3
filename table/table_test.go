package table_test

import (
	"math"
	"slices"
	"strconv"
	"testing"

	"punnet/api"
	. "punnet/table"
)

func row(name string, n int) Row {
	return Row{Name: name, Time: api.Time{Year: 2000 + n}, Method: 8, CRC: uint32(n), Packed: n, Size: 2 * n, Heap: n}
}

func filled(t *testing.T, names ...string) *Table {
	t.Helper()
	x := New()
	for i, s := range names {
		if e := x.Hold(s, i); e != api.OK {
			t.Fatal(e)
		}
		if e := x.Put(row(s, i), i); e != api.OK {
			t.Fatal(e)
		}
	}
	return x
}

func TestP33_1Hold(t *testing.T) {
	x := filled(t, "there")
	for _, bad := range []string{"", "/", "a/../b", "a:b", "\xff"} {
		if e := x.Hold(bad, 1); e != api.ErrName {
			t.Errorf("Hold(%q): %d", bad, e)
		}
	}
	if e := x.Hold("there", 1); e != api.ErrTwice {
		t.Errorf("Hold of a row's name: %d", e)
	}
	if by, is := x.Holder("a"); by != 0 || is {
		t.Errorf("Holder: %d, %v", by, is)
	}
	if e := x.Hold("a", 1); e != api.OK {
		t.Errorf("Hold: %d", e)
	}
	for _, by := range []int{1, 2} {
		if e := x.Hold("a", by); e != api.ErrTwice {
			t.Errorf("Hold twice: %d", e)
		}
	}
	if by, is := x.Holder("a"); by != 1 || !is {
		t.Errorf("Holder: %d, %v", by, is)
	}
	x.Hold("zero", 0)
	if by, is := x.Holder("zero"); by != 0 || !is {
		t.Errorf("Holder: %d, %v", by, is)
	}
	if by, is := x.Holder("there"); by != 0 || is {
		t.Errorf("Holder of a row's name: %d, %v", by, is)
	}
	if x.Len() != 1 {
		t.Errorf("Len: %d", x.Len())
	}
}

func TestP33_1Let(t *testing.T) {
	x := filled(t, "there")
	x.Hold("a", 5)
	for _, c := range []struct {
		s  string
		by int
	}{{"a", 4}, {"b", 5}, {"there", 0}, {"", 0}, {"a", math.MinInt}} {
		if e := x.Let(c.s, c.by); e != api.ErrMissing {
			t.Errorf("Let(%q, %d): %d", c.s, c.by, e)
		}
	}
	if by, _ := x.Holder("a"); by != 5 {
		t.Error("the reservation has ended")
	}
	if e := x.Let("a", 5); e != api.OK {
		t.Errorf("Let: %d", e)
	}
	if _, is := x.Holder("a"); is || x.Let("a", 5) != api.ErrMissing {
		t.Error("the reservation has not ended")
	}
	if e := x.Hold("a", 6); e != api.OK {
		t.Errorf("Hold after Let: %d", e)
	}
}

func TestP33_1Put(t *testing.T) {
	x := New()
	x.Hold("a", 5)
	for _, c := range []struct {
		s  string
		by int
	}{{"a", 4}, {"b", 5}, {"", 5}, {"", 0}} {
		if e := x.Put(row(c.s, 1), c.by); e != api.ErrMissing || x.Len() != 0 {
			t.Errorf("Put(%q, %d): %d", c.s, c.by, e)
		}
	}
	if e := x.Put(row("a", 9), 5); e != api.OK || x.Len() != 1 {
		t.Errorf("Put: %d", e)
	}
	if _, is := x.Holder("a"); is {
		t.Error("the reservation has not ended")
	}
	if e := x.Put(row("a", 9), 5); e != api.ErrMissing {
		t.Errorf("Put twice: %d", e)
	}
	if r, i, ok := x.Find("a"); r != row("a", 9) || i != 0 || !ok {
		t.Errorf("Find: %+v, %d, %v", r, i, ok)
	}
}

func TestP33_1Full(t *testing.T) {
	names := make([]string, 1000)
	for i := range names {
		names[i] = strconv.Itoa(i)
	}
	x := filled(t, names...)
	if e := x.Hold("more", 7); e != api.OK {
		t.Errorf("Hold: %d", e)
	}
	if e := x.Put(row("more", 1), 8); e != api.ErrMissing {
		t.Errorf("Put for another one: %d", e)
	}
	if e := x.Put(row("more", 1), 7); e != api.ErrFull || x.Len() != 1000 {
		t.Errorf("Put: %d", e)
	}
	if by, is := x.Holder("more"); by != 7 || !is {
		t.Error("the reservation has ended")
	}
}

func TestP33_2(t *testing.T) {
	x := New()
	if x.Len() != 0 || len(x.Rows()) != 0 || len(x.First(5)) != 0 || len(x.Names(5)) != 0 || len(x.Sorted()) != 0 {
		t.Error("a new table has rows")
	}
	if size, packed := x.Sizes(); size != 0 || packed != 0 {
		t.Error("Sizes of none")
	}
	names := []string{"b", "a.b", "a/z", "c/d", "a"}
	x = filled(t, names...)
	x.Hold("held", 1)
	var rows []Row
	for i, s := range names {
		rows = append(rows, row(s, i))
	}
	if x.Len() != 5 || !slices.Equal(x.Rows(), rows) {
		t.Errorf("Rows: %+v", x.Rows())
	}
	for _, n := range []int{math.MinInt, -1, 0, 1, 4, 5, 6, math.MaxInt} {
		k := min(max(n, 0), 5)
		if !slices.Equal(x.First(n), rows[:k]) || !slices.Equal(x.Names(n), names[:k]) {
			t.Errorf("First(%d)", n)
		}
	}
	for i, s := range names {
		if r, k, ok := x.Find(s); r != rows[i] || k != i || !ok {
			t.Errorf("Find(%q): %+v, %d", s, r, k)
		}
	}
	for _, s := range []string{"", "held", "z"} {
		if r, k, ok := x.Find(s); r != (Row{}) || k != 0 || ok {
			t.Errorf("Find(%q): %+v, %d", s, r, k)
		}
	}
	if size, packed := x.Sizes(); size != 20 || packed != 10 {
		t.Errorf("Sizes: %d, %d", size, packed)
	}
	if s := x.Sorted(); !slices.Equal(s, []string{"a", "a/z", "a.b", "b", "c/d"}) {
		t.Errorf("Sorted: %q", s)
	}
	x.Rows()[0].Name = "x"
	x.First(1)[0].Name = "x"
	x.Names(1)[0] = "x"
	if !slices.Equal(x.Rows(), rows) {
		t.Error("the table's memory is handed out")
	}
}

func TestP33_3(t *testing.T) {
	x := New()
	var firsts [][]Row
	for i := range 50 {
		s := strconv.Itoa(i % 30)
		e := x.Hold(s, i)
		if (e == api.OK) != (i < 30) {
			t.Errorf("Hold %d: %d", i, e)
		}
		x.Put(row(s, i), i)
		firsts = append(firsts, x.First(x.Len()))
		for _, f := range firsts {
			if !slices.Equal(x.First(len(f)), f) {
				t.Error("First has changed")
			}
		}
	}
	if x.Len() != 30 {
		t.Errorf("Len: %d", x.Len())
	}
}

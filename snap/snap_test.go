package snap_test

import (
	"bytes"
	"math"
	"slices"
	"strings"
	"testing"

	"punnet/api"
	"punnet/build"
	"punnet/crc"
	"punnet/deflate"
	. "punnet/snap"
	"punnet/store"
	"punnet/table"
)

var when = api.Time{Year: 2024, Month: 5, Day: 6, Hour: 7, Minute: 8, Sec: 10}

type world struct {
	t     *testing.T
	table *table.Table
	store *store.Store
}

func begin(t *testing.T) *world {
	t.Helper()
	s, e := store.New(10000)
	if e != api.OK {
		t.Fatal(e)
	}
	return &world{t: t, table: table.New(), store: s}
}

// add commits an entry, after a change of its row and with other stored bytes, where these are given.
func (w *world) add(name, data string, level int, change func(r *table.Row)) table.Row {
	w.t.Helper()
	r := table.Row{Name: name, Time: when, CRC: crc.Sum([]byte(data)), Size: len(data), Heap: w.store.Open()}
	packed := []byte(data)
	if level > 0 {
		r.Method = api.Deflated
		packed, _ = deflate.All(packed, level)
	}
	r.Packed = len(packed)
	w.store.Append(r.Heap, packed)
	w.store.Append(r.Heap, []byte("more that is not told of"))
	if change != nil {
		change(&r)
	}
	w.table.Hold(name, 1)
	if e := w.table.Put(r, 1); e != api.OK {
		w.t.Fatal(e)
	}
	return r
}

func TestP37_1(t *testing.T) {
	w := begin(t)
	s := Of(w.table, w.store)
	if s.Len() != 0 || len(s.Names()) != 0 {
		t.Error("a snapshot of a new table")
	}
	if r, is := s.Row(0); r != (table.Row{}) || is {
		t.Error("a row of no rows")
	}
	a, b := w.add("b", "abc", 0, nil), w.add("a", "", 6, nil)
	w.table.Hold("held", 1)
	now := Of(w.table, w.store)
	w.add("c", "x", 0, nil)
	if s.Len() != 0 || now.Len() != 2 || !slices.Equal(now.Names(), []string{"b", "a"}) {
		t.Errorf("%d, %q", now.Len(), now.Names())
	}
	for i, want := range []table.Row{a, b} {
		if r, is := now.Row(i); r != want || !is {
			t.Errorf("Row(%d): %+v", i, r)
		}
	}
	for _, i := range []int{-1, 2, math.MinInt, math.MaxInt} {
		if r, is := now.Row(i); r != (table.Row{}) || is {
			t.Errorf("Row(%d): %+v", i, r)
		}
		if b, e := now.Packed(i, -1, -1); b != nil || e != api.ErrMissing {
			t.Errorf("Packed(%d): %d", i, e)
		}
		if b, e := now.At(i); b != nil || e != api.ErrMissing {
			t.Errorf("At(%d): %d", i, e)
		}
		if x, e := now.Entry(i); x.Name != "" || x.Data != nil || x.Packed != nil || e != api.ErrMissing {
			t.Errorf("Entry(%d): %d", i, e)
		}
	}
	now.Names()[0] = "x"
	if now.Names()[0] != "b" {
		t.Error("the snapshot's memory is handed out")
	}
}

func TestP37_2Packed(t *testing.T) {
	w := begin(t)
	w.add("a", "abcde", 0, nil)
	s := Of(w.table, w.store)
	for from := 0; from <= 5; from++ {
		for _, most := range []int{0, 1, 4, 5, 6, math.MaxInt} {
			want := "abcde"[from:min(5, from+min(most, 9))]
			if b, e := s.Packed(0, from, most); string(b) != want || e != api.OK {
				t.Errorf("Packed(%d, %d): %q, %d", from, most, b, e)
			}
		}
	}
	for _, c := range [][2]int{{-1, 1}, {6, 0}, {0, -1}, {math.MinInt, 1}, {math.MaxInt, 1}, {0, math.MinInt}} {
		if b, e := s.Packed(0, c[0], c[1]); b != nil || e != api.ErrRange {
			t.Errorf("Packed(%d, %d): %q, %d", c[0], c[1], b, e)
		}
	}
	w.store.Drop(1)
	if b, e := s.Packed(0, 0, 1); b != nil || e != api.ErrMissing {
		t.Errorf("Packed without a heap: %d", e)
	}
	if b, e := s.Packed(0, 6, 1); b != nil || e != api.ErrRange {
		t.Errorf("Packed without a heap and a range: %d", e)
	}
}

func TestP37_2At(t *testing.T) {
	text := strings.Repeat("text ", 50)
	cases := []struct {
		level  int
		change func(r *table.Row)
		want   api.Errno
	}{
		{0, nil, api.OK}, {6, nil, api.OK},
		{0, func(r *table.Row) { r.CRC++ }, api.ErrCRC}, {0, func(r *table.Row) { r.Size++ }, api.ErrCRC}, {0, func(r *table.Row) { r.Packed-- }, api.ErrCRC},
		{6, func(r *table.Row) { r.CRC++ }, api.ErrCRC}, {6, func(r *table.Row) { r.Size++ }, api.ErrCRC}, {6, func(r *table.Row) { r.Size-- }, api.ErrLimit},
		{6, func(r *table.Row) { r.Size = -1 }, api.ErrArg}, {6, func(r *table.Row) { r.Packed-- }, api.ErrShort}, {6, func(r *table.Row) { r.Method = 5 }, api.ErrCRC},
		{0, func(r *table.Row) { r.Method = 8 }, api.ErrLack}, {0, func(r *table.Row) { r.Method = 5 }, api.OK}, {6, func(r *table.Row) { r.Packed++ }, api.OK},
		{0, func(r *table.Row) { r.Packed = 5000 }, api.ErrRange}, {0, func(r *table.Row) { r.Packed = -1 }, api.ErrRange}, {0, func(r *table.Row) { r.Heap = 99 }, api.ErrMissing},
		{6, func(r *table.Row) { r.Heap, r.Packed, r.CRC = 99, -1, 0 }, api.ErrMissing},
	}
	for i, c := range cases {
		w := begin(t)
		w.add("other", "o", 0, nil)
		r := w.add("n", text, c.level, c.change)
		s := Of(w.table, w.store)
		want := text
		if c.want != api.OK {
			want = ""
		}
		if b, e := s.At(1); string(b) != want || e != c.want {
			t.Errorf("case %d: At: %d bytes, %d", i, len(b), e)
		}
		if b, e := s.Get("n"); string(b) != want || e != c.want {
			t.Errorf("case %d: Get: %d bytes, %d", i, len(b), e)
		}
		x, e := s.Entry(1)
		if e != c.want || string(x.Data) != want {
			t.Errorf("case %d: Entry: %d", i, e)
		}
		if e != api.OK {
			if x.Name != "" || x.Packed != nil || x.Time != (api.Time{}) || x.Method != 0 {
				t.Errorf("case %d: an entry beside an error", i)
			}
			continue
		}
		packed, _ := s.Packed(1, 0, r.Packed)
		if x.Name != "n" || x.Time != when || x.Method != r.Method || x.Wide || x.Later || !bytes.Equal(x.Packed, packed) {
			t.Errorf("case %d: %+v", i, x.Header())
		}
		if c.change == nil && x.Check() != api.OK {
			t.Errorf("case %d: the entry is not right: %d", i, x.Check())
		}
	}
}

func TestP37_2Get(t *testing.T) {
	w := begin(t)
	w.add("a", "1", 0, nil)
	w.add("b", "2", 9, nil)
	s := Of(w.table, w.store)
	for name, want := range map[string]string{"a": "1", "b": "2"} {
		if b, e := s.Get(name); string(b) != want || e != api.OK {
			t.Errorf("Get(%q): %q, %d", name, b, e)
		}
	}
	for _, name := range []string{"", "c", "A"} {
		if b, e := s.Get(name); b != nil || e != api.ErrMissing {
			t.Errorf("Get(%q): %d", name, e)
		}
	}
}

func TestP37_3(t *testing.T) {
	w := begin(t)
	texts := []string{"first", strings.Repeat("second ", 20), "third"}
	for i, text := range texts {
		gap := w.store.Open()
		w.store.Append(gap, make([]byte, 100))
		w.add("n"+string(rune('0'+i)), text, 3*i, nil)
	}
	s := Of(w.table, w.store)
	var before []build.Entry
	for i := range texts {
		x, _ := s.Entry(i)
		before = append(before, x)
	}
	w.store.Drop(1)
	w.store.Drop(3)
	if w.store.Compact() == 0 {
		t.Error("nothing was moved")
	}
	w.add("later", "x", 0, nil)
	w.store.Append(5, make([]byte, 50))
	w.store.Compact()
	if s.Len() != 3 {
		t.Errorf("Len: %d", s.Len())
	}
	for i, x := range before {
		y, e := s.Entry(i)
		if e != api.OK || x.Header() != y.Header() || !bytes.Equal(x.Packed, y.Packed) || string(y.Data) != texts[i] {
			t.Errorf("entry %d: %d", i, e)
		}
	}
}

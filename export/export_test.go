package export_test

import (
	"bytes"
	"math"
	"math/rand"
	"strconv"
	"strings"
	"testing"

	"punnet/api"
	"punnet/build"
	"punnet/crc"
	"punnet/deflate"
	. "punnet/export"
	"punnet/snap"
	"punnet/store"
	"punnet/strict"
	"punnet/table"
)

var when = api.Time{Year: 2024, Month: 5, Day: 6, Hour: 7, Minute: 8, Sec: 10}

type world struct {
	t     *testing.T
	table *table.Table
	store *store.Store
}

func begin(t *testing.T) *world {
	t.Helper()
	s, e := store.New(1 << 20)
	if e != api.OK {
		t.Fatal(e)
	}
	return &world{t: t, table: table.New(), store: s}
}

func (w *world) add(name, data string, level int) {
	w.t.Helper()
	gap := w.store.Open()
	w.store.Append(gap, make([]byte, 33))
	r := table.Row{Name: name, Time: when, CRC: crc.Sum([]byte(data)), Size: len(data), Heap: w.store.Open()}
	packed := []byte(data)
	if level > 0 {
		r.Method = api.Deflated
		packed, _ = deflate.All(packed, level)
	}
	r.Packed = len(packed)
	w.store.Append(r.Heap, packed)
	w.store.Drop(gap)
	w.table.Hold(name, 1)
	if e := w.table.Put(r, 1); e != api.OK {
		w.t.Fatal(e)
	}
}

func (w *world) fill() {
	for i := range 12 {
		data := strings.Repeat("some text "+strconv.Itoa(i), i*i)
		w.add("d/é"+strconv.Itoa(i), data, i%3*3)
	}
}

// want returns the archive of all entries of a snapshot.
func want(t *testing.T, s *snap.Snap, f Form) []byte {
	t.Helper()
	var list []build.Entry
	for i := range s.Len() {
		x, e := s.Entry(i)
		if e != api.OK {
			t.Fatal(e)
		}
		x.Wide, x.Later = f.Wide, f.Later
		list = append(list, x)
	}
	b, e := build.Archive(list)
	if e != api.OK {
		t.Fatal(e)
	}
	return b
}

var forms = []Form{{}, {Wide: true}, {Later: true}, {Wide: true, Later: true}}

func TestP38_1(t *testing.T) {
	w := begin(t)
	w.fill()
	s := snap.Of(w.table, w.store)
	for _, f := range forms {
		all := want(t, s, f)
		if b, e := All(s, f); !bytes.Equal(b, all) || e != api.OK {
			t.Errorf("%+v: All has %d bytes of %d, %d", f, len(b), len(all), e)
		}
		for _, n := range []int{1, 2, 7, 100, 1000, len(all) - 1, len(all), len(all) + 1, math.MaxInt} {
			x := New(s, f)
			var out []byte
			for !x.Done() {
				if x.Told() != len(out) {
					t.Fatalf("Told: %d of %d", x.Told(), len(out))
				}
				b, e := x.Step(n)
				if e != api.OK || len(b) != min(n, len(all)-len(out)) {
					t.Fatalf("Step(%d): %d bytes, %d", n, len(b), e)
				}
				out = append(out, b...)
			}
			if !bytes.Equal(out, all) || x.Told() != len(all) {
				t.Errorf("%+v by %d: %d bytes of %d", f, n, len(out), len(all))
			}
			if b, e := x.Step(n); b != nil || e != api.ErrState || x.Told() != len(all) {
				t.Errorf("Step of one that is Done: %d", e)
			}
			if b, e := x.Step(0); b != nil || e != api.ErrArg {
				t.Errorf("Step(0) of one that is Done: %d", e)
			}
		}
	}
}

func TestP38_1Empty(t *testing.T) {
	w := begin(t)
	for _, f := range forms {
		s := snap.Of(w.table, w.store)
		if b, e := All(s, f); len(b) != 22 || e != api.OK || !bytes.Equal(b, want(t, s, f)) {
			t.Errorf("%+v: %d bytes, %d", f, len(b), e)
		}
		x := New(s, f)
		if x.Done() || x.Told() != 0 {
			t.Error("a new export")
		}
		for _, n := range []int{0, -1, math.MinInt} {
			if b, e := x.Step(n); b != nil || e != api.ErrArg || x.Told() != 0 || x.Done() {
				t.Errorf("Step(%d): %d", n, e)
			}
		}
		if b, e := x.Step(21); len(b) != 21 || e != api.OK || x.Done() {
			t.Errorf("Step(21): %d bytes, %d", len(b), e)
		}
		if b, e := x.Step(1); len(b) != 1 || e != api.OK || !x.Done() {
			t.Errorf("Step(1): %d bytes, %d", len(b), e)
		}
	}
}

// An entry without bytes has a header, and nothing between it and what is behind.
func TestP38_1NoBytes(t *testing.T) {
	w := begin(t)
	w.add("empty", "", 0)
	w.add("packed", "", 6)
	s := snap.Of(w.table, w.store)
	for _, f := range forms {
		if b, e := All(s, f); !bytes.Equal(b, want(t, s, f)) || e != api.OK {
			t.Errorf("%+v: %d bytes, %d", f, len(b), e)
		}
	}
}

func TestP38_1Wrong(t *testing.T) {
	for _, change := range []func(r *table.Row){
		func(r *table.Row) { r.Packed = -5 }, func(r *table.Row) { r.Packed = 500 }, func(r *table.Row) { r.Method = 3 }, func(r *table.Row) { r.Heap = 77 },
		func(r *table.Row) { r.Time = api.Time{} }, func(r *table.Row) { r.Size = math.MaxInt },
	} {
		w := begin(t)
		w.add("a", "abc", 6)
		r := table.Row{Name: "b", Time: when, Method: 8, Packed: 2, Heap: 2}
		change(&r)
		w.table.Hold("b", 1)
		w.table.Put(r, 1)
		s := snap.Of(w.table, w.store)
		if b, e := All(s, Form{}); b != nil || e == api.OK {
			t.Errorf("%+v: %d bytes", r, len(b))
		}
		x := New(s, Form{})
		for range 200 {
			told := x.Told()
			if b, e := x.Step(1); e != api.OK && (b != nil || x.Told() != told || x.Done()) {
				t.Errorf("%+v: an error changed something", r)
			}
		}
	}
}

func TestP38_2(t *testing.T) {
	rnd := rand.New(rand.NewSource(38))
	for _, f := range forms {
		w := begin(t)
		w.fill()
		s := snap.Of(w.table, w.store)
		all := want(t, s, f)
		x := New(s, f)
		var out []byte
		for i := 0; !x.Done(); i++ {
			b, e := x.Step(1 + rnd.Intn(300))
			if e != api.OK {
				t.Fatal(e)
			}
			kept := bytes.Clone(b)
			out = append(out, kept...)
			clear(b)
			switch rnd.Intn(3) {
			case 0:
				w.store.Compact()
			case 1:
				w.add("more"+strconv.Itoa(i), "something else", 6)
			}
		}
		if !bytes.Equal(out, all) {
			t.Errorf("%+v: other bytes", f)
		}
		list, e := strict.Read(out, strict.All())
		if len(list) != 12 || e != api.OK {
			t.Errorf("%+v: %d entries, %d", f, len(list), e)
		}
		for i, x := range list {
			if data, _ := s.At(i); !bytes.Equal(x.Data, data) || x.Wide != f.Wide || x.Later != f.Later {
				t.Errorf("%+v: the entry %d", f, i)
			}
		}
	}
}

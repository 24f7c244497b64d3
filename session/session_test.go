package session_test

import (
	"bytes"
	"math"
	"math/rand"
	"strings"
	"testing"

	"punnet/api"
	"punnet/crc"
	"punnet/inflate"
	"punnet/quota"
	. "punnet/session"
	"punnet/store"
)

var plenty = quota.Quota{Waiting: 1 << 20, Size: 1 << 20}

func begin(t *testing.T, size, level int, q quota.Quota) (*Session, *store.Store) {
	t.Helper()
	s, e := store.New(size)
	if e != api.OK {
		t.Fatal(e)
	}
	x, e := New(Config{Name: "n", Level: level, Quota: q}, s)
	if e != api.OK {
		t.Fatal(e)
	}
	return x, s
}

func noise(n int) []byte {
	b := make([]byte, n)
	rand.New(rand.NewSource(int64(n))).Read(b)
	return b
}

func TestP36_1New(t *testing.T) {
	s, _ := store.New(10)
	bad := []Config{
		{Level: -1, Quota: plenty}, {Level: 10, Quota: plenty}, {Level: math.MinInt, Quota: plenty}, {Level: 6}, {Level: 6, Quota: quota.Quota{Waiting: 1, Size: -1}}, {Level: 0, Quota: quota.Quota{Size: 5}},
	}
	for _, c := range bad {
		if x, e := New(c, s); x != nil || e != api.ErrArg || len(s.Heaps()) != 0 {
			t.Errorf("%+v: %d", c, e)
		}
	}
	for level := range 10 {
		c := Config{Name: "//", Time: api.Time{Year: 1}, Level: level, Quota: plenty}
		x, e := New(c, s)
		if e != api.OK || x.Config != c || x.Name != "//" || x.Phase() != Open || x.Heap() != level+1 || !s.Has(x.Heap()) {
			t.Fatalf("level %d: %d", level, e)
		}
		if x.Steps() != 0 || x.Waiting() != 0 || x.Size() != 0 || x.Busy() || x.CRC() != 0 || x.Bound() != 6 {
			t.Errorf("level %d: a new session", level)
		}
		if want := map[bool]int{true: 0, false: 8}[level == 0]; x.Method() != want {
			t.Errorf("level %d: the method %d", level, x.Method())
		}
	}
}

func TestP36_1Write(t *testing.T) {
	x, _ := begin(t, 100, 0, quota.Quota{Waiting: 4, Size: 6})
	for _, c := range []struct {
		n    int
		want api.Errno
	}{{7, api.ErrSize}, {5, api.ErrQuota}, {0, api.OK}, {3, api.OK}, {4, api.ErrSize}, {2, api.ErrQuota}} {
		if e := x.Write(make([]byte, c.n)); e != c.want {
			t.Errorf("Write of %d: %d", c.n, e)
		}
	}
	if x.Waiting() != 3 || x.Size() != 3 || !x.Busy() {
		t.Errorf("%d, %d", x.Waiting(), x.Size())
	}
	if e := x.Close(); e != api.OK || x.Phase() != Closing {
		t.Errorf("Close: %d", e)
	}
	if e := x.Write(make([]byte, 9)); e != api.ErrState {
		t.Errorf("Write after Close: %d", e)
	}
	if e := x.Close(); e != api.ErrState {
		t.Errorf("Close twice: %d", e)
	}
	for x.Busy() {
		x.Step()
	}
	if x.Phase() != Ready || x.Write(nil) != api.ErrState || x.Close() != api.ErrState {
		t.Error("a Ready session takes more")
	}
}

func TestP36_2Example(t *testing.T) {
	x, s := begin(t, 100, 0, plenty)
	in := []byte("abc")
	x.Write(in)
	clear(in)
	if is, e := x.Step(); !is || e != api.OK || x.Waiting() != 0 || x.Steps() != 1 || x.Busy() {
		t.Errorf("the first step: %d", e)
	}
	if is, e := x.Step(); is || e != api.OK || x.Steps() != 1 {
		t.Errorf("a step of nothing: %d", e)
	}
	x.Close()
	if is, e := x.Step(); !is || e != api.OK || x.Phase() != Ready || x.Steps() != 2 {
		t.Errorf("the last step: %d", e)
	}
	if b, _ := s.All(x.Heap()); string(b) != "abc" {
		t.Errorf("%q", b)
	}
	if is, e := x.Step(); is || e != api.OK || x.Busy() {
		t.Errorf("a step of a Ready session: %d", e)
	}
}

func TestP36_2Pieces(t *testing.T) {
	x, s := begin(t, 10000, 0, plenty)
	b := noise(1300)
	x.Write(b)
	for i, left := range []int{788, 276, 0} {
		x.Step()
		if n, _ := s.Len(x.Heap()); x.Waiting() != left || n != 1300-left || x.Size() != 1300 || x.CRC() != crc.Sum(b[:n]) || x.Steps() != i+1 {
			t.Errorf("step %d: %d wait, %d are stored", i, x.Waiting(), n)
		}
	}
	x, s = begin(t, 10000, 6, plenty)
	x.Write(b)
	x.Close()
	var phases []Phase
	for x.Busy() {
		x.Step()
		phases = append(phases, x.Phase())
	}
	// Three pieces, the end of the packing, and the end.
	if len(phases) != 5 || phases[3] != Closing || phases[4] != Ready {
		t.Errorf("phases: %v", phases)
	}
	if p, _ := s.All(x.Heap()); len(p) < 1300 {
		t.Errorf("%d bytes", len(p))
	}
}

func TestP36_2Full(t *testing.T) {
	for _, level := range []int{0, 6} {
		x, s := begin(t, 400, level, plenty)
		b := noise(600)
		x.Write(b)
		x.Close()
		steps := 0
		for full := 0; full < 3; steps++ {
			is, e := x.Step()
			if !is || e != api.OK && e != api.ErrFull {
				t.Fatalf("level %d: %v, %d", level, is, e)
			}
			if e == api.ErrFull {
				full++
				if x.Phase() != Closing || !x.Busy() {
					t.Errorf("level %d: the phase %d", level, x.Phase())
				}
			}
		}
		if n, _ := s.Len(x.Heap()); n != 0 || x.Steps() != steps {
			t.Errorf("level %d: %d bytes are stored in %d steps", level, n, x.Steps())
		}
		if x.Waiting() != 600-512 && level == 0 {
			t.Errorf("level %d: %d wait", level, x.Waiting())
		}
		s.Resize(2000)
		for x.Busy() {
			if is, e := x.Step(); !is || e != api.OK {
				t.Fatalf("level %d: %d", level, e)
			}
		}
		got, _ := s.All(x.Heap())
		if level > 0 {
			got, _, _ = inflate.All(got, 600)
		}
		if !bytes.Equal(got, b) || x.Phase() != Ready || x.CRC() != crc.Sum(b) {
			t.Errorf("level %d: the bytes are others", level)
		}
	}
	one, none := begin(t, 0, 0, plenty)
	one.Write([]byte("a"))
	for range 3 {
		if is, e := one.Step(); !is || e != api.ErrFull || !one.Busy() {
			t.Errorf("a single byte: %v, %d", is, e)
		}
	}
	one.Write([]byte("b"))
	none.Resize(1)
	if is, e := one.Step(); !is || e != api.OK || one.Waiting() != 1 {
		t.Errorf("a single byte: %v, %d", is, e)
	}
	// An open session whose bytes are packed, but not stored, is busy.
	x, s := begin(t, 2, 0, plenty)
	x.Write([]byte("abc"))
	if is, e := x.Step(); !is || e != api.ErrFull || x.Waiting() != 0 || !x.Busy() || x.Phase() != Open || x.CRC() != crc.Sum([]byte("abc")) {
		t.Errorf("%v, %d", is, e)
	}
	x.Write([]byte("d"))
	s.Resize(4)
	if is, e := x.Step(); !is || e != api.OK || x.Waiting() != 1 {
		t.Errorf("%v, %d", is, e)
	}
	x.Step()
	if b, _ := s.All(x.Heap()); string(b) != "abcd" || x.Busy() {
		t.Errorf("%q", b)
	}
}

func TestP36_3Drop(t *testing.T) {
	for _, keep := range []bool{false, true} {
		for _, level := range []int{0, 9} {
			for stop := range 4 {
				x, s := begin(t, 5000, level, plenty)
				x.Write(noise(700))
				for range stop {
					x.Step()
				}
				if stop > 1 {
					x.Close()
					for x.Busy() && stop > 2 {
						x.Step()
					}
				}
				waiting, size, steps, sum := x.Waiting(), x.Size(), x.Steps(), x.CRC()
				if e := x.Drop(keep); e != api.OK || x.Phase() != Gone || s.Has(x.Heap()) != keep {
					t.Errorf("Drop: %d, the phase %d", e, x.Phase())
				}
				if !keep && s.Live() != 0 {
					t.Errorf("%d bytes are left", s.Live())
				}
				if e := x.Drop(keep); e != api.ErrState {
					t.Errorf("Drop twice: %d", e)
				}
				if is, e := x.Step(); is || e != api.OK || x.Busy() || x.Write(nil) != api.ErrState || x.Close() != api.ErrState {
					t.Error("a session that is Gone goes on")
				}
				if x.Waiting() != waiting || x.Size() != size || x.Steps() != steps || x.CRC() != sum || x.Phase() != Gone {
					t.Error("Drop changed something else")
				}
			}
		}
	}
}

func TestP36_3Bound(t *testing.T) {
	for _, n := range []int{0, 1, 511, 512, 513, 5000} {
		for _, level := range []int{0, 1, 9} {
			for early := range 3 {
				x, _ := begin(t, 10000, level, plenty)
				x.Write(noise(n))
				for range early {
					x.Step()
				}
				x.Close()
				bound := x.Bound()
				if bound != x.Waiting()/512+6 {
					t.Errorf("Bound with %d waiting: %d", x.Waiting(), bound)
				}
				for range bound {
					if _, e := x.Step(); e != api.OK {
						t.Fatal(e)
					}
				}
				if x.Phase() != Ready {
					t.Errorf("%d bytes at level %d: not ready after %d steps", n, level, bound)
				}
			}
		}
	}
}

func TestP36_4(t *testing.T) {
	rnd := rand.New(rand.NewSource(36))
	text := []byte(strings.Repeat("one two three ", 3000))
	for level := range 10 {
		for _, data := range [][]byte{nil, text, noise(40000), text[:512], noise(16384)} {
			x, s := begin(t, 100000, level, plenty)
			for rest := data; len(rest) > 0; {
				n := min(len(rest), rnd.Intn(5000))
				if e := x.Write(rest[:n]); e != api.OK {
					t.Fatal(e)
				}
				rest = rest[n:]
				for range rnd.Intn(4) {
					x.Step()
				}
				if rnd.Intn(3) == 0 {
					s.Compact()
				}
			}
			x.Close()
			for x.Busy() {
				x.Step()
			}
			got, e := s.All(x.Heap())
			if level > 0 {
				packed := len(got)
				var n int
				got, n, e = inflate.All(got, len(data))
				if n != packed {
					t.Errorf("level %d: %d bytes of %d are blocks", level, n, packed)
				}
			}
			if !bytes.Equal(got, data) || e != api.OK || x.CRC() != crc.Sum(data) || x.Size() != len(data) || x.Phase() != Ready {
				t.Errorf("level %d: %d bytes of %d, %d", level, len(got), len(data), e)
			}
		}
	}
}

package quota_test

import (
	"math"
	"math/rand"
	"testing"

	"punnet/api"
	. "punnet/quota"
)

func TestP34_1Right(t *testing.T) {
	cases := []struct {
		waiting, size int
		want          bool
	}{
		{1, 0, true}, {api.MaxSize, api.MaxSize, true}, {5, 3, true}, {0, 5, false}, {-1, 5, false}, {1, -1, false},
		{api.MaxSize + 1, 5, false}, {1, api.MaxSize + 1, false}, {math.MinInt, math.MaxInt, false}, {math.MaxInt, 0, false}, {1, math.MinInt, false},
	}
	for _, c := range cases {
		q := Quota{Waiting: c.waiting, Size: c.size}
		a, e := New(q)
		if q.Right() != c.want || (e == api.OK) != c.want || !c.want && (a != nil || e != api.ErrArg) {
			t.Errorf("%+v: %v, %d", q, q.Right(), e)
		}
	}
}

func check(t *testing.T, a *Account, waiting, size, peak, room int) {
	t.Helper()
	if a.Waiting() != waiting || a.Size() != size || a.Peak() != peak || a.Room() != room {
		t.Errorf("%d, %d, %d, %d; not %d, %d, %d, %d", a.Waiting(), a.Size(), a.Peak(), a.Room(), waiting, size, peak, room)
	}
}

func TestP34_1(t *testing.T) {
	a, _ := New(Quota{Waiting: 4, Size: 6})
	check(t, a, 0, 0, 0, 4)
	steps := []struct {
		add, done int
		want      api.Errno
	}{
		{5, 0, api.ErrQuota}, {7, 0, api.ErrSize}, {-1, 0, api.ErrArg}, {math.MaxInt, 0, api.ErrSize}, {math.MinInt, 0, api.ErrArg}, {0, 0, api.OK},
	}
	for _, s := range steps {
		if e := a.Add(s.add); e != s.want {
			t.Errorf("Add(%d): %d", s.add, e)
		}
		check(t, a, 0, 0, 0, 4)
	}
	a.Add(3)
	check(t, a, 3, 3, 3, 1)
	for _, n := range []int{-1, 4, math.MinInt, math.MaxInt} {
		if e := a.Done(n); e != api.ErrArg {
			t.Errorf("Done(%d): %d", n, e)
		}
	}
	if e := a.Add(4); e != api.ErrSize {
		t.Errorf("Add(4): %d", e)
	}
	if e := a.Add(2); e != api.ErrQuota {
		t.Errorf("Add(2): %d", e)
	}
	if e := a.Add(math.MaxInt); e != api.ErrSize {
		t.Errorf("Add of too many: %d", e)
	}
	check(t, a, 3, 3, 3, 1)
	if e := a.Done(2); e != api.OK {
		t.Errorf("Done: %d", e)
	}
	check(t, a, 1, 3, 3, 3)
	a.Add(3)
	check(t, a, 4, 6, 4, 0)
	if e := a.Done(4); e != api.OK {
		t.Errorf("Done: %d", e)
	}
	check(t, a, 0, 6, 4, 0)
	if a.Add(0) != api.OK || a.Done(0) != api.OK || a.Add(1) != api.ErrSize || a.Done(1) != api.ErrArg {
		t.Error("at the end")
	}
}

func TestP34_3(t *testing.T) {
	rnd := rand.New(rand.NewSource(34))
	for range 50 {
		q := Quota{Waiting: 1 + rnd.Intn(50), Size: rnd.Intn(200)}
		a, _ := New(q)
		peak := 0
		for range 200 {
			room := a.Room()
			n := rnd.Intn(60)
			if rnd.Intn(2) == 0 {
				if e := a.Add(n); (e == api.OK) != (n <= room) {
					t.Fatalf("Add(%d) with room for %d: %d", n, room, e)
				}
			} else {
				a.Done(n)
			}
			peak = max(peak, a.Waiting())
			if a.Waiting() > q.Waiting || a.Waiting() < 0 || a.Size() > q.Size || a.Peak() != peak {
				t.Fatalf("%+v is exceeded", q)
			}
		}
	}
}

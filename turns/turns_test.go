package turns_test

import (
	"math"
	"math/rand"
	"slices"
	"testing"

	"punnet/api"
	. "punnet/turns"
)

func TestP35_1(t *testing.T) {
	r := New()
	if len(r.List()) != 0 || r.Has(0) || r.All() != 0 || r.Turns(0) != 0 {
		t.Error("a new ring")
	}
	for _, id := range []int{7, -3, 0, math.MaxInt} {
		if e := r.Ready(id); e != api.OK || !r.Has(id) {
			t.Errorf("Ready(%d): %d", id, e)
		}
		if e := r.Ready(id); e != api.ErrTwice {
			t.Errorf("Ready(%d) twice: %d", id, e)
		}
	}
	if !slices.Equal(r.List(), []int{7, -3, 0, math.MaxInt}) {
		t.Errorf("List: %v", r.List())
	}
	r.List()[0] = 99
	if e := r.Stop(5); e != api.ErrMissing {
		t.Errorf("Stop(5): %d", e)
	}
	if e := r.Stop(-3); e != api.OK || r.Has(-3) || r.Stop(-3) != api.ErrMissing {
		t.Errorf("Stop(-3): %d", e)
	}
	if !slices.Equal(r.List(), []int{7, 0, math.MaxInt}) {
		t.Errorf("List: %v", r.List())
	}
	r.Ready(-3)
	if !slices.Equal(r.List(), []int{7, 0, math.MaxInt, -3}) {
		t.Errorf("List: %v", r.List())
	}
}

func TestP35_2(t *testing.T) {
	r := New()
	for _, k := range []int{0, 5, -1} {
		if id, e := r.Pick(k); id != 0 || e != api.ErrMissing {
			t.Errorf("Pick of none: %d, %d", id, e)
		}
	}
	if most, fewest := r.Spread(); most != 0 || fewest != 0 || r.All() != 0 {
		t.Errorf("Spread of none: %d, %d", most, fewest)
	}
	r.Ready(7)
	r.Ready(8)
	if most, fewest := r.Spread(); most != 0 || fewest != 0 {
		t.Errorf("Spread without turns: %d, %d", most, fewest)
	}
	if id, e := r.Pick(1); id != 8 || e != api.OK || !slices.Equal(r.List(), []int{7, 8}) {
		t.Errorf("Pick(1): %d, %d, %v", id, e, r.List())
	}
	if most, fewest := r.Spread(); most != 1 || fewest != 0 || r.Turns(8) != 1 || r.Turns(7) != 0 || r.All() != 1 {
		t.Errorf("Spread: %d, %d", most, fewest)
	}
	r.Ready(9)
	picks := []struct {
		k, id int
		list  []int
	}{
		{0, 7, []int{8, 9, 7}}, {2, 7, []int{8, 9, 7}}, {4, 9, []int{8, 7, 9}}, {-1, 9, []int{8, 7, 9}}, {-3, 8, []int{7, 9, 8}}, {-4, 8, []int{7, 9, 8}},
		{math.MaxInt, 9, []int{7, 8, 9}}, {math.MinInt, 8, []int{7, 9, 8}},
	}
	for _, p := range picks {
		if id, e := r.Pick(p.k); id != p.id || e != api.OK || !slices.Equal(r.List(), p.list) {
			t.Errorf("Pick(%d): %d, %d, %v", p.k, id, e, r.List())
		}
	}
	if r.Turns(7) != 2 || r.Turns(8) != 4 || r.Turns(9) != 3 || r.All() != 9 || r.Turns(5) != 0 {
		t.Errorf("Turns: %d, %d, %d of %d", r.Turns(7), r.Turns(8), r.Turns(9), r.All())
	}
	if most, fewest := r.Spread(); most != 4 || fewest != 2 {
		t.Errorf("Spread: %d, %d", most, fewest)
	}
	r.Stop(8)
	if most, fewest := r.Spread(); most != 3 || fewest != 2 || r.Turns(8) != 4 || r.All() != 9 {
		t.Errorf("Spread without one: %d, %d", most, fewest)
	}
	r.Ready(8)
	if most, _ := r.Spread(); most != 4 || r.Turns(8) != 4 {
		t.Error("the turns of one that is ready again")
	}
	for _, id := range r.List() {
		if e := r.Stop(id); e != api.OK {
			t.Errorf("Stop of the first one: %d", e)
		}
	}
	if most, fewest := r.Spread(); most != 0 || fewest != 0 || r.All() != 9 {
		t.Errorf("Spread when all have stopped: %d, %d", most, fewest)
	}
}

func TestP35_2Modulo(t *testing.T) {
	rnd := rand.New(rand.NewSource(35))
	r := New()
	for range 2000 {
		if rnd.Intn(3) == 0 {
			id := rnd.Intn(12)
			if r.Has(id) {
				r.Stop(id)
			} else {
				r.Ready(id)
			}
		}
		list := r.List()
		k := rnd.Intn(100) - 50
		id, e := r.Pick(k)
		if len(list) == 0 {
			continue
		}
		i := ((k % len(list)) + len(list)) % len(list)
		want := slices.Concat(list[:i], list[i+1:], list[i:i+1])
		if id != list[i] || e != api.OK || !slices.Equal(r.List(), want) {
			t.Fatalf("Pick(%d) of %v: %d, %v", k, list, id, r.List())
		}
	}
}

func TestP35_3(t *testing.T) {
	r := New()
	for id := range 10 {
		r.Ready(id)
	}
	for range 105 {
		r.Pick(0)
		if most, fewest := r.Spread(); most-fewest > 1 {
			t.Fatalf("Spread: %d, %d", most, fewest)
		}
	}
	r.Stop(3)
	before := map[int]int{}
	for _, id := range r.List() {
		before[id] = r.Turns(id)
	}
	for range 90 {
		r.Pick(0)
	}
	for id, n := range before {
		if r.Turns(id) != n+10 {
			t.Errorf("%d had %d turns", id, r.Turns(id)-n)
		}
	}
}

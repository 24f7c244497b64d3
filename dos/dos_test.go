package dos_test

import (
	"math"
	"testing"
	"time"

	"punnet/api"
	. "punnet/dos"
)

func TestP25_1Days(t *testing.T) {
	for _, year := range []int{1980, 1999, 2000, 2001, 2004, 2100, 2107, 1900, 2400, 0, -1, -4, -100, -400, 1} {
		for month := 1; month <= 12; month++ {
			want := time.Date(year, time.Month(month)+1, 0, 0, 0, 0, 0, time.UTC).Day()
			if n := Days(year, month); n != want {
				t.Errorf("Days(%d, %d) = %d", year, month, n)
			}
		}
		for _, month := range []int{0, 13, -1, math.MinInt, math.MaxInt} {
			if n := Days(year, month); n != 0 {
				t.Errorf("Days(%d, %d) = %d", year, month, n)
			}
		}
	}
	if Days(math.MinInt, 2) == 0 || Days(math.MaxInt, 12) != 31 {
		t.Error("Days of any year")
	}
}

func at(year, month, day, hour, minute, sec int) api.Time {
	return api.Time{Year: year, Month: month, Day: day, Hour: hour, Minute: minute, Sec: sec}
}

var good = []api.Time{
	at(1980, 1, 1, 0, 0, 0), at(2107, 12, 31, 23, 59, 58), at(2024, 2, 29, 12, 30, 2), at(2000, 2, 29, 0, 0, 0), at(2024, 5, 6, 7, 8, 10), at(2023, 4, 30, 1, 1, 2),
}

var bad = []api.Time{
	{},
	at(1979, 12, 31, 23, 59, 58), at(2108, 1, 1, 0, 0, 0), at(2023, 2, 29, 0, 0, 0), at(2024, 2, 30, 0, 0, 0), at(2100, 2, 29, 0, 0, 0), at(2024, 4, 31, 0, 0, 0),
	at(2024, 0, 1, 0, 0, 0), at(2024, 13, 1, 0, 0, 0), at(2024, 1, 0, 0, 0, 0), at(2024, 1, 32, 0, 0, 0), at(2024, 1, -1, 0, 0, 0),
	at(2024, 1, 1, 24, 0, 0), at(2024, 1, 1, -1, 0, 0), at(2024, 1, 1, 0, 60, 0), at(2024, 1, 1, 0, -1, 0), at(2024, 1, 1, 0, 0, 60), at(2024, 1, 1, 0, 0, 1), at(2024, 1, 1, 0, 0, 59), at(2024, 1, 1, 0, 0, -2),
	at(math.MaxInt, math.MinInt, math.MaxInt, 0, 0, 0),
}

func TestP25_1Right(t *testing.T) {
	for _, x := range good {
		if !Right(x) {
			t.Errorf("%v is not Right", x)
		}
	}
	for _, x := range bad {
		if Right(x) {
			t.Errorf("%v is Right", x)
		}
	}
}

func TestP25_2(t *testing.T) {
	if date, clock, e := Encode(api.Time{Year: 2024, Month: 5, Day: 6, Hour: 7, Minute: 8, Sec: 10}); date != 0x58a6 || clock != 0x3905 || e != api.OK {
		t.Errorf("%x, %x, %d", date, clock, e)
	}
	for _, x := range good {
		date, clock, e := Encode(x)
		if int(date) != 512*(x.Year-1980)+32*x.Month+x.Day || int(clock) != 2048*x.Hour+32*x.Minute+x.Sec/2 || e != api.OK {
			t.Errorf("%v: %x, %x, %d", x, date, clock, e)
		}
	}
	for _, x := range bad {
		if date, clock, e := Encode(x); date != 0 || clock != 0 || e != api.ErrTime {
			t.Errorf("%v: %x, %x, %d", x, date, clock, e)
		}
	}
}

func checkDecode(t *testing.T, date, clock uint16) {
	t.Helper()
	x, e := Decode(date, clock)
	want := api.Time{Year: 1980 + int(date)/512, Month: int(date) / 32 % 16, Day: int(date) % 32, Hour: int(clock) / 2048, Minute: int(clock) / 32 % 64, Sec: int(clock) % 32 * 2}
	if Right(want) {
		if x != want || e != api.OK {
			t.Fatalf("Decode(%x, %x) = %v, %d", date, clock, x, e)
		}
	} else if x != (api.Time{}) || e != api.ErrTime {
		t.Fatalf("Decode(%x, %x) = %v, %d", date, clock, x, e)
	}
}

func TestP25_2Decode(t *testing.T) {
	for v := range 1 << 16 {
		checkDecode(t, uint16(v), 0x3905)
		checkDecode(t, 0x58a6, uint16(v))
	}
}

func TestP25_3Compare(t *testing.T) {
	base := api.Time{Year: 5, Month: 5, Day: 5, Hour: 5, Minute: 5, Sec: 5}
	if Compare(base, base) != 0 || Compare(api.Time{Year: math.MinInt}, api.Time{Year: math.MaxInt}) != -1 {
		t.Error("Compare")
	}
	parts := func(x *api.Time) []*int {
		return []*int{&x.Year, &x.Month, &x.Day, &x.Hour, &x.Minute, &x.Sec}
	}
	for i := range 6 {
		later := base
		*parts(&later)[i] = 6
		for k := i + 1; k < 6; k++ {
			*parts(&later)[k] = -9
		}
		if Compare(base, later) != -1 || Compare(later, base) != 1 {
			t.Errorf("Compare with a greater part %d", i)
		}
	}
}

func TestP25_3Next(t *testing.T) {
	for _, x := range bad {
		if next, e := Next(x); next != (api.Time{}) || e != api.ErrTime {
			t.Errorf("Next(%v) = %v, %d", x, next, e)
		}
	}
	if next, e := Next(api.Time{Year: 2107, Month: 12, Day: 31, Hour: 23, Minute: 59, Sec: 58}); next != (api.Time{}) || e != api.ErrTime {
		t.Errorf("Next of the last: %v, %d", next, e)
	}
	day := 24 * time.Hour
	for today := time.Date(1980, 1, 1, 0, 0, 0, 0, time.UTC); today.Year() <= 2107; today = today.Add(day) {
		for _, clock := range []time.Duration{0, 58 * time.Second, time.Hour - 2*time.Second, 13*time.Hour + 14*time.Minute, day - 2*time.Second} {
			was, then := today.Add(clock), today.Add(clock).Add(2*time.Second)
			next, e := Next(of(was))
			if then.Year() == 2108 {
				continue
			}
			if next != of(then) || e != api.OK {
				t.Fatalf("Next(%v) = %v, %d", was, next, e)
			}
		}
	}
}

func of(x time.Time) api.Time {
	return api.Time{Year: x.Year(), Month: int(x.Month()), Day: x.Day(), Hour: x.Hour(), Minute: x.Minute(), Sec: x.Second()}
}

func TestP25_4(t *testing.T) {
	for _, a := range good {
		for _, b := range good {
			ad, ac, _ := Encode(a)
			bd, bc, _ := Encode(b)
			x, y := int(ad)<<16|int(ac), int(bd)<<16|int(bc)
			want := 0
			if x < y {
				want = -1
			} else if x > y {
				want = 1
			}
			if Compare(a, b) != want {
				t.Errorf("%v, %v: %d", a, b, Compare(a, b))
			}
		}
		if next, e := Next(a); e == api.OK && Compare(a, next) != -1 {
			t.Errorf("Next(%v) = %v", a, next)
		}
	}
}

package history_test

import (
	"math/rand"
	"slices"
	"strconv"
	"testing"

	"punnet/api"
	"punnet/export"
	. "punnet/history"
	"punnet/quota"
	"punnet/session"
	"punnet/spool"
)

type event = spool.Event

func asked(id int, name string, n int) event {
	return event{Kind: spool.Asked, ID: id, Name: name, Len: n}
}

func published(id int, name string, n int) event {
	return event{Kind: spool.Published, ID: id, Name: name, Len: n}
}

func aborted(id int, name string, n int) event {
	return event{Kind: spool.Aborted, ID: id, Name: name, Len: n}
}

func exporting(id, n int) event { return event{Kind: spool.Exporting, ID: id, Len: n} }
func exported(id, n int) event  { return event{Kind: spool.Exported, ID: id, Len: n} }
func listed(n int) event        { return event{Kind: spool.Listed, Len: n} }
func got(name string, n int) event {
	return event{Kind: spool.Got, Name: name, Len: n}
}
func refused(name string, n int, e api.Errno) event {
	return event{Kind: spool.Refused, Name: name, Len: n, Code: e}
}

func TestP42_1(t *testing.T) {
	good := [][]event{
		nil,
		{asked(1, "a", 0), published(1, "a", 1)},
		{asked(1, "a", 0), asked(2, "b", 0), published(2, "b", 1), published(1, "a", 2), listed(2)},
		{asked(1, "a", 0), aborted(1, "a", 0), asked(1, "b", 0), published(1, "b", 1), asked(1, "c", 1)},
		{aborted(1, "a", 0), aborted(1, "x", 0), listed(0)},
		{asked(1, "a", 0), aborted(1, "other", 0), asked(1, "a", 0)},
		{exporting(1, 0), asked(1, "a", 0), published(1, "a", 1), exporting(2, 1), exported(1, 0), exported(2, 1), exporting(1, 1)},
		{refused("a", 0, api.ErrMissing), asked(1, "a", 0), published(1, "a", 1), got("a", 1), refused("a", 1, api.ErrCRC)},
		{asked(1, "a", 0), asked(2, "a", 0), published(1, "a", 1)},
		{asked(1, "a", 0), published(1, "a", 1), asked(1, "a", 1)},
		{{Kind: spool.Listed, ID: 5, Name: "x", Code: 3}},
	}
	for i, list := range good {
		if n, e := Check(list); n != len(list) || e != api.OK {
			t.Errorf("good %d: %d, %d", i, n, e)
		}
	}
	bad := []struct {
		list []event
		at   int
	}{
		{[]event{published(1, "a", 1)}, 0}, {[]event{asked(1, "a", 0), asked(1, "b", 0)}, 1}, {[]event{asked(1, "a", 0), published(1, "b", 1)}, 1}, {[]event{asked(1, "a", 0), published(2, "a", 1)}, 1},
		{[]event{asked(1, "a", 1)}, 0}, {[]event{asked(1, "a", 0), published(1, "a", 0)}, 1}, {[]event{asked(1, "a", 0), published(1, "a", 2)}, 1},
		{[]event{asked(1, "a", 0), published(1, "a", 1), published(1, "a", 2)}, 2}, {[]event{asked(1, "a", 0), asked(2, "a", 0), published(1, "a", 1), published(2, "a", 2)}, 3},
		{[]event{asked(1, "a", 0), aborted(1, "a", 0), published(1, "a", 1)}, 2}, {[]event{aborted(1, "a", 1)}, 0},
		{[]event{exported(1, 0)}, 0}, {[]event{exporting(1, 0), exporting(1, 0)}, 1}, {[]event{exporting(1, 1)}, 0}, {[]event{exporting(1, 0), exported(1, 1)}, 1}, {[]event{exporting(1, 0), exported(1, 0), exported(1, 0)}, 2}, {[]event{exporting(1, 0), exported(2, 0)}, 1},
		{[]event{exporting(1, 0), asked(1, "a", 0), published(1, "a", 1), exported(1, 1)}, 3},
		{[]event{got("a", 0)}, 0}, {[]event{asked(1, "a", 0), got("a", 0)}, 1}, {[]event{listed(1)}, 0}, {[]event{listed(0), listed(-1)}, 1},
		{[]event{refused("a", 0, api.OK)}, 0}, {[]event{refused("a", 1, api.ErrArg)}, 0}, {[]event{{}}, 0}, {[]event{listed(0), {Kind: 9}}, 1}, {[]event{{Kind: -1}, published(1, "a", 1)}, 0},
	}
	for i, c := range bad {
		if n, e := Check(c.list); n != c.at || e != api.ErrOrder {
			t.Errorf("bad %d: %d, %d", i, n, e)
		}
		deeds, e := Deeds(c.list)
		if deeds != nil || e != api.ErrOrder {
			t.Errorf("bad %d: Deeds: %v, %d", i, deeds, e)
		}
		names, e := Names(c.list)
		if names != nil || e != api.ErrOrder {
			t.Errorf("bad %d: Names: %v, %d", i, names, e)
		}
		pending, e := Pending(c.list)
		if pending != nil || e != api.ErrOrder {
			t.Errorf("bad %d: Pending: %v, %d", i, pending, e)
		}
	}
}

func TestP42_2(t *testing.T) {
	list := []event{
		asked(1, "a", 0), asked(2, "b", 0), listed(0), asked(3, "c", 0), published(2, "b", 1), aborted(3, "c", 1), asked(2, "d", 1), asked(3, "e", 1), exporting(1, 1), published(3, "e", 2),
		asked(3, "f", 2), got("b", 2), asked(4, "f", 2), aborted(3, "f", 2), asked(3, "f", 2),
	}
	deeds, e := Deeds(list)
	want := []Deed{{1, "a", 0, -1}, {2, "b", 1, 4}, {3, "c", 3, -1}, {2, "d", 6, -1}, {3, "e", 7, 9}, {3, "f", 10, -1}, {4, "f", 12, -1}, {3, "f", 14, -1}}
	if !slices.Equal(deeds, want) || e != api.OK {
		t.Errorf("Deeds: %+v, %d", deeds, e)
	}
	if names, e := Names(list); !slices.Equal(names, []string{"b", "e"}) || e != api.OK {
		t.Errorf("Names: %q, %d", names, e)
	}
	if pending, e := Pending(list); !slices.Equal(pending, []Deed{want[0], want[3], want[6], want[7]}) || e != api.OK {
		t.Errorf("Pending: %+v, %d", pending, e)
	}
	if deeds, e := Deeds(nil); len(deeds) != 0 || e != api.OK {
		t.Errorf("Deeds of none: %d", e)
	}
	if names, e := Names(nil); len(names) != 0 || e != api.OK {
		t.Errorf("Names of none: %d", e)
	}
	if pending, e := Pending(nil); len(pending) != 0 || e != api.OK {
		t.Errorf("Pending of none: %d", e)
	}
}

func TestP42_3(t *testing.T) {
	rnd := rand.New(rand.NewSource(42))
	for range 20 {
		s, _ := spool.New(spool.Config{Size: 5000, Sessions: 4, Quota: quota.Quota{Waiting: 1000, Size: 1000}})
		for range 500 {
			id := rnd.Intn(5)
			switch rnd.Intn(12) {
			case 0, 1:
				s.Open(id, session.Config{Name: "n" + strconv.Itoa(rnd.Intn(20)), Level: rnd.Intn(10), Time: api.Time{Year: 2000, Month: 1, Day: 1}})
			case 2:
				s.Write(id, make([]byte, rnd.Intn(300)))
			case 3:
				s.Close(id)
			case 4:
				s.Commit(id)
			case 5:
				if rnd.Intn(4) == 0 {
					s.Abort(id)
				}
			case 6:
				s.Export(id, export.Form{})
			case 7:
				s.Pull(id, rnd.Intn(400))
			case 8:
				s.Get("n" + strconv.Itoa(rnd.Intn(20)))
			default:
				s.Tick(rnd.Intn(9))
			}
		}
		names := s.List()
		events := s.Events()
		if n, e := Check(events); n != len(events) || e != api.OK {
			t.Fatalf("the event %d of %d: %d, %+v", n, len(events), e, events[min(n, len(events)-1)])
		}
		if got, e := Names(events); !slices.Equal(got, names) || e != api.OK {
			t.Fatalf("Names: %q, not %q", got, names)
		}
	}
}

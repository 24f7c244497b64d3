package spool_test

import (
	"bytes"
	"math"
	"math/rand"
	"slices"
	"strconv"
	"strings"
	"testing"

	"punnet/api"
	"punnet/export"
	"punnet/quota"
	"punnet/session"
	. "punnet/spool"
	"punnet/strict"
)

var when = api.Time{Year: 2024, Month: 5, Day: 6, Hour: 7, Minute: 8, Sec: 10}

var plenty = quota.Quota{Waiting: 1 << 20, Size: 1 << 20}

func begin(t *testing.T, size, sessions int) *Spool {
	t.Helper()
	s, e := New(Config{Size: size, Sessions: sessions, Quota: plenty})
	if e != api.OK {
		t.Fatal(e)
	}
	return s
}

func entry(name string, level int) session.Config {
	return session.Config{Name: name, Time: when, Level: level}
}

func ok(t *testing.T, e api.Errno) {
	t.Helper()
	if e != api.OK {
		t.Fatalf("the error %d", e)
	}
}

// put publishes an entry.
func put(t *testing.T, s *Spool, id int, name, data string, level int) {
	t.Helper()
	ok(t, s.Open(id, entry(name, level)))
	ok(t, s.Write(id, []byte(data)))
	ok(t, s.Close(id))
	ok(t, s.Commit(id))
	for range s.Bound(id) {
		if _, e := s.Step(id); e == api.ErrSession {
			return
		}
	}
	if slices.Contains(s.Sessions(), id) {
		t.Fatal("the entry is not published")
	}
}

func TestP39_1New(t *testing.T) {
	bad := []struct {
		c    Config
		want api.Errno
	}{
		{Config{10, 0, plenty}, api.ErrArg}, {Config{10, 65, plenty}, api.ErrArg}, {Config{10, -1, plenty}, api.ErrArg}, {Config{10, 1, quota.Quota{}}, api.ErrArg},
		{Config{-1, 0, plenty}, api.ErrArg}, {Config{-1, 1, plenty}, api.ErrRange}, {Config{api.MaxCap + 1, 64, plenty}, api.ErrRange}, {Config{math.MaxInt, math.MaxInt, plenty}, api.ErrArg},
	}
	for _, b := range bad {
		if s, e := New(b.c); s != nil || e != b.want {
			t.Errorf("%+v: %d", b.c, e)
		}
	}
	for _, c := range []Config{{0, 1, plenty}, {api.MaxCap, 64, plenty}} {
		s, e := New(c)
		if e != api.OK || s.Len() != 0 || len(s.List()) != 0 || len(s.Sessions()) != 0 || s.Free() != c.Size || s.Live() != 0 || s.Store().Size() != c.Size {
			t.Errorf("%+v: %d", c, e)
		}
	}
}

func TestP39_1Open(t *testing.T) {
	s := begin(t, 1000, 2)
	bad := func(id int, c session.Config, want api.Errno) {
		t.Helper()
		live, heaps, sessions := s.Live(), len(s.Store().Heaps()), len(s.Sessions())
		if e := s.Open(id, c); e != want || s.Live() != live || len(s.Store().Heaps()) != heaps || len(s.Sessions()) != sessions {
			t.Errorf("Open(%d, %+v): %d, not %d", id, c, e, want)
		}
	}
	put(t, s, 5, "there", "x", 0)
	ok(t, s.Open(0, entry("a", 0)))
	worst := session.Config{Name: "//", Level: 77}
	bad(-1, worst, api.ErrSession)
	bad(64, worst, api.ErrSession)
	bad(math.MaxInt, worst, api.ErrSession)
	bad(0, worst, api.ErrState)
	bad(1, worst, api.ErrArg)
	bad(1, session.Config{Name: "//", Level: -1, Time: when}, api.ErrArg)
	bad(1, session.Config{Name: "//", Level: 9}, api.ErrTime)
	bad(1, entry("//", 9), api.ErrName)
	bad(1, entry("a", 9), api.ErrTwice)
	bad(1, entry("there", 9), api.ErrTwice)
	c := entry("b", 9)
	c.Quota = quota.Quota{Waiting: -5, Size: -7}
	ok(t, s.Open(63, c))
	ok(t, s.Write(63, make([]byte, 1000)))
	bad(1, worst, api.ErrSessions)
	bad(0, worst, api.ErrState)
	if !slices.Equal(s.Sessions(), []int{0, 63}) {
		t.Errorf("Sessions: %v", s.Sessions())
	}
}

func TestP39_2NoWriter(t *testing.T) {
	s := begin(t, 1000, 2)
	put(t, s, 3, "a", "x", 0)
	for _, id := range []int{0, 3, -1, 64, math.MinInt} {
		if e := s.Write(id, make([]byte, 1<<21)); e != api.ErrSession {
			t.Errorf("Write: %d", e)
		}
		if e := s.Close(id); e != api.ErrSession {
			t.Errorf("Close: %d", e)
		}
		if e := s.Commit(id); e != api.ErrSession {
			t.Errorf("Commit: %d", e)
		}
		if e := s.Abort(id); e != api.ErrSession {
			t.Errorf("Abort: %d", e)
		}
		if is, e := s.Step(id); is || e != api.ErrSession {
			t.Errorf("Step: %d", e)
		}
		if p, is := s.Phase(id); p != session.Gone || is || s.Waiting(id) != 0 || s.Bound(id) != 0 {
			t.Errorf("Phase: %d, %v", p, is)
		}
	}
	if id, is, e := s.Tick(0); id != 0 || is || e != api.ErrMissing {
		t.Errorf("Tick: %d, %v, %d", id, is, e)
	}
}

func TestP39_2Commit(t *testing.T) {
	s := begin(t, 1000, 2)
	ok(t, s.Open(1, entry("a", 6)))
	if e := s.Commit(1); e != api.ErrState {
		t.Errorf("Commit of an open session: %d", e)
	}
	ok(t, s.Write(1, []byte("abc")))
	if p, is := s.Phase(1); p != session.Open || !is || s.Waiting(1) != 3 || s.Bound(1) != 7 {
		t.Errorf("%d, %v", p, is)
	}
	ok(t, s.Close(1))
	if e := s.Write(1, nil); e != api.ErrState || s.Close(1) != api.ErrState {
		t.Errorf("Write of a closed session: %d", e)
	}
	ok(t, s.Commit(1))
	if e := s.Commit(1); e != api.ErrState {
		t.Errorf("Commit twice: %d", e)
	}
	for i := range 3 {
		if is, e := s.Step(1); !is || e != api.OK || s.Len() != 0 {
			t.Errorf("step %d: %v, %d", i, is, e)
		}
	}
	if p, _ := s.Phase(1); p != session.Ready || s.Len() != 0 {
		t.Errorf("the phase %d", p)
	}
	if is, e := s.Step(1); !is || e != api.OK || s.Len() != 1 {
		t.Errorf("the last step: %v, %d", is, e)
	}
	if is, e := s.Step(1); is || e != api.ErrSession {
		t.Errorf("a step behind the last: %v, %d", is, e)
	}
	r, _ := s.Snap().Row(0)
	if n, _ := s.Store().Len(r.Heap); r.Name != "a" || r.Time != when || r.Method != 8 || r.Size != 3 || r.Packed != n || n == 0 {
		t.Errorf("%+v", r)
	}
	// A Ready session waits until it is asked.
	ok(t, s.Open(1, entry("b", 0)))
	ok(t, s.Close(1))
	s.Step(1)
	for range 2 {
		if is, e := s.Step(1); is || e != api.OK || s.Len() != 1 {
			t.Errorf("a session that has not been asked: %v, %d", is, e)
		}
	}
	ok(t, s.Commit(1))
	if is, e := s.Step(1); !is || e != api.OK || !slices.Equal(s.List(), []string{"a", "b"}) {
		t.Errorf("%v, %d", is, e)
	}
}

func TestP39_2Abort(t *testing.T) {
	s := begin(t, 1000, 3)
	ok(t, s.Open(1, entry("a", 0)))
	ok(t, s.Open(2, entry("b", 0)))
	ok(t, s.Write(1, make([]byte, 700)))
	s.Step(1)
	s.Step(1)
	if s.Live() != 700 || s.Open(3, entry("a", 0)) != api.ErrTwice {
		t.Errorf("Live: %d", s.Live())
	}
	ok(t, s.Abort(1))
	if s.Live() != 0 || s.Free() != 1000 || !slices.Equal(s.Sessions(), []int{2}) {
		t.Errorf("Live: %d", s.Live())
	}
	if e := s.Abort(1); e != api.ErrSession {
		t.Errorf("Abort twice: %d", e)
	}
	if id, _, e := s.Tick(0); id != 2 || e != api.OK {
		t.Errorf("Tick: %d, %d", id, e)
	}
	put(t, s, 3, "a", "again", 6)
	if b, e := s.Get("a"); string(b) != "again" || e != api.OK {
		t.Errorf("%q, %d", b, e)
	}
	for stop := range 5 {
		ok(t, s.Open(1, entry("c", 6)))
		ok(t, s.Write(1, []byte("text")))
		ok(t, s.Close(1))
		ok(t, s.Commit(1))
		for range stop % 4 {
			s.Step(1)
		}
		ok(t, s.Abort(1))
	}
	if s.Len() != 1 || len(s.Store().Heaps()) != 2 {
		t.Errorf("%d entries, %d heaps", s.Len(), len(s.Store().Heaps()))
	}
}

func TestP39_2Tick(t *testing.T) {
	s := begin(t, 2000, 3)
	for id := range 3 {
		ok(t, s.Open(id, entry("n"+strconv.Itoa(id), 0)))
		ok(t, s.Write(id, []byte("abc")))
	}
	if id, is, e := s.Tick(1); id != 1 || !is || e != api.OK {
		t.Errorf("%d, %v, %d", id, is, e)
	}
	if id, is, e := s.Tick(-1); id != 1 || is || e != api.OK {
		t.Errorf("%d, %v, %d", id, is, e)
	}
	if id, is, e := s.Tick(3); id != 0 || !is || e != api.OK {
		t.Errorf("%d, %v, %d", id, is, e)
	}
	if id, is, e := s.Tick(0); id != 2 || !is || e != api.OK {
		t.Errorf("%d, %v, %d", id, is, e)
	}
	small := begin(t, 2, 1)
	ok(t, small.Open(9, entry("a", 0)))
	ok(t, small.Write(9, []byte("abc")))
	for range 2 {
		if id, is, e := small.Tick(0); id != 9 || !is || e != api.ErrFull {
			t.Errorf("%d, %v, %d", id, is, e)
		}
	}
}

func TestP39_2Full(t *testing.T) {
	s := begin(t, 5000, 1)
	for i := range 1000 {
		put(t, s, 1, strconv.Itoa(i), "", 0)
	}
	ok(t, s.Open(1, entry("more", 0)))
	ok(t, s.Close(1))
	ok(t, s.Commit(1))
	s.Step(1)
	for range 2 {
		if is, e := s.Step(1); is || e != api.ErrFull || s.Len() != 1000 {
			t.Errorf("%v, %d", is, e)
		}
	}
	if p, is := s.Phase(1); p != session.Ready || !is {
		t.Errorf("the phase %d", p)
	}
	ok(t, s.Abort(1))
}

func TestP39_3(t *testing.T) {
	s := begin(t, 100000, 2)
	put(t, s, 1, "b", strings.Repeat("one ", 200), 6)
	put(t, s, 1, "a", "two", 0)
	if s.Len() != 2 || !slices.Equal(s.List(), []string{"b", "a"}) {
		t.Errorf("List: %q", s.List())
	}
	snap := s.Snap()
	ok(t, s.Export(-7, export.Form{Later: true}))
	if e := s.Export(-7, export.Form{}); e != api.ErrTwice {
		t.Errorf("Export twice: %d", e)
	}
	ok(t, s.Export(8, export.Form{Wide: true}))
	put(t, s, 1, "c", "three", 0)
	if snap.Len() != 2 || s.Snap().Len() != 3 {
		t.Error("Snap")
	}
	if b, e := s.Get("d"); b != nil || e != api.ErrMissing {
		t.Errorf("Get: %d", e)
	}
	if b, is, e := s.Pull(9, 5); b != nil || is || e != api.ErrMissing {
		t.Errorf("Pull: %d", e)
	}
	if b, is, e := s.Pull(8, 0); b != nil || is || e != api.ErrArg {
		t.Errorf("Pull(0): %d", e)
	}
	for id, f := range map[int]export.Form{-7: {Later: true}, 8: {Wide: true}} {
		var out []byte
		for {
			b, is, e := s.Pull(id, 50)
			ok(t, e)
			out = append(out, b...)
			if is {
				break
			}
		}
		want, _ := export.All(snap, f)
		names, e := strict.Names(out)
		if !bytes.Equal(out, want) || !slices.Equal(names, []string{"b", "a"}) || e != api.OK {
			t.Errorf("the export %d: %q, %d", id, names, e)
		}
		if _, _, e := s.Pull(id, 50); e != api.ErrMissing {
			t.Errorf("Pull behind the end: %d", e)
		}
		ok(t, s.Export(id, f))
		b, is, e := s.Pull(id, math.MaxInt)
		if names, _ := strict.Names(b); len(names) != 3 || !is || e != api.OK {
			t.Errorf("the export %d at once: %q, %d", id, names, e)
		}
	}
}

func TestP39_4(t *testing.T) {
	s := begin(t, 3000, 3)
	ok(t, s.Open(1, entry("a", 0)))
	ok(t, s.Open(0, entry("b", 0)))
	ok(t, s.Write(1, make([]byte, 512)))
	ok(t, s.Write(0, bytes.Repeat([]byte("y"), 512)))
	s.Step(1)
	s.Step(0)
	ok(t, s.Abort(1))
	if s.Free() != 3000-512 || s.Live() != 512 || s.Store().Live() != 512 {
		t.Errorf("%d, %d", s.Free(), s.Live())
	}
	for _, size := range []int{-1, api.MaxCap + 1} {
		if e := s.Resize(size); e != api.ErrRange {
			t.Errorf("Resize(%d): %d", size, e)
		}
	}
	if holes, _ := s.Store().Holes(); holes != 1 {
		t.Errorf("%d holes", holes)
	}
	ok(t, s.Resize(2000))
	if holes, _ := s.Store().Holes(); holes != 1 || s.Store().Size() != 2000 {
		t.Error("Resize compacts without need")
	}
	ok(t, s.Resize(700))
	if holes, _ := s.Store().Holes(); holes != 0 || s.Store().Size() != 700 {
		t.Error("Resize does not compact")
	}
	if e := s.Resize(511); e != api.ErrBusy || s.Store().Size() != 700 {
		t.Errorf("Resize below Live: %d", e)
	}
	ok(t, s.Close(0))
	ok(t, s.Commit(0))
	s.Step(0)
	s.Step(0)
	if b, e := s.Get("b"); !bytes.Equal(b, bytes.Repeat([]byte("y"), 512)) || e != api.OK {
		t.Errorf("Get: %d", e)
	}
	if n := s.Compact(); n != 0 {
		t.Errorf("Compact: %d", n)
	}
	ok(t, s.Open(5, entry("c", 6)))
	ok(t, s.Open(2, entry("d", 6)))
	ok(t, s.Write(5, make([]byte, 1024)))
	if !slices.Equal(s.Sessions(), []int{2, 5}) || s.Waiting(5) != 1024 || s.Waiting(2) != 0 || s.Bound(5) != 9 || s.Bound(2) != 7 {
		t.Errorf("%v, %d, %d", s.Sessions(), s.Bound(5), s.Bound(2))
	}
}

func TestP39_5(t *testing.T) {
	s := begin(t, 5000, 4)
	if len(s.Events()) != 0 {
		t.Error("events of a new spool")
	}
	put(t, s, 3, "a", "x", 0)
	s.List()
	ok(t, s.Export(7, export.Form{}))
	s.Export(7, export.Form{})
	ok(t, s.Open(4, entry("b", 0)))
	s.Commit(4)
	ok(t, s.Close(4))
	ok(t, s.Commit(4))
	s.Commit(4)
	s.Get("b")
	ok(t, s.Abort(4))
	s.Abort(4)
	put(t, s, 2, "c", "y", 6)
	s.Get("a")
	s.Pull(7, 1)
	s.Pull(7, 0)
	s.Pull(7, 1000)
	s.Pull(7, 1000)
	ok(t, s.Open(4, entry("b", 0)))
	ok(t, s.Abort(4))
	s.Len()
	s.Snap()
	s.Compact()
	want := []Event{
		{Kind: 1, ID: 3, Name: "a", Len: 0}, {Kind: 2, ID: 3, Name: "a", Len: 1}, {Kind: 6, Len: 1}, {Kind: 4, ID: 7, Len: 1},
		{Kind: 1, ID: 4, Name: "b", Len: 1}, {Kind: 8, Name: "b", Len: 1, Code: api.ErrMissing}, {Kind: 3, ID: 4, Name: "b", Len: 1},
		{Kind: 1, ID: 2, Name: "c", Len: 1}, {Kind: 2, ID: 2, Name: "c", Len: 2}, {Kind: 7, Name: "a", Len: 2}, {Kind: 5, ID: 7, Len: 1}, {Kind: 3, ID: 4, Name: "b", Len: 2},
	}
	if !slices.Equal(s.Events(), want) {
		t.Errorf("%+v", s.Events())
	}
	s.Events()[0].Kind = 9
	if s.Events()[0].Kind != 1 {
		t.Error("the spool's memory is handed out")
	}
}

// player calls anything, in any order, and holds the spool against a model.
type player struct {
	t       *testing.T
	rnd     *rand.Rand
	spool   *Spool
	names   []string
	data    map[string][]byte
	writing map[int]*writing
}

type writing struct {
	name   string
	data   []byte
	closed bool
	asked  bool
}

func (p *player) open(id int) {
	name := "n" + strconv.Itoa(p.rnd.Intn(60))
	free := !slices.Contains(p.names, name)
	for _, w := range p.writing {
		free = free && w.name != name
	}
	e := p.spool.Open(id, entry(name, p.rnd.Intn(10)))
	if (e == api.OK) != (free && p.writing[id] == nil && len(p.writing) < 5) {
		p.t.Fatalf("Open(%d, %q): %d", id, name, e)
	}
	if e == api.OK {
		p.writing[id] = &writing{name: name}
	}
}

func (p *player) write(id int) {
	b := make([]byte, p.rnd.Intn(1500))
	for i := range b {
		b[i] = byte(p.rnd.Intn(4))
	}
	e := p.spool.Write(id, b)
	w := p.writing[id]
	if (e == api.OK) != (w != nil && !w.closed) {
		p.t.Fatalf("Write(%d): %d", id, e)
	}
	if e == api.OK {
		w.data = append(w.data, b...)
	}
}

// did follows a step.
func (p *player) did(id, before int, e api.Errno) {
	w := p.writing[id]
	if w == nil {
		return
	}
	if _, is := p.spool.Phase(id); is {
		return
	}
	if !w.asked || e != api.OK || p.spool.Len() != before+1 {
		p.t.Fatalf("%d no longer writes: %d", id, e)
	}
	p.names = append(p.names, w.name)
	p.data[w.name] = w.data
	delete(p.writing, id)
}

func (p *player) move() {
	s, id := p.spool, p.rnd.Intn(7)
	w, n := p.writing[id], s.Len()
	switch p.rnd.Intn(12) {
	case 0, 1:
		p.open(id)
	case 2, 3:
		p.write(id)
	case 4:
		if e := s.Close(id); (e == api.OK) != (w != nil && !w.closed) {
			p.t.Fatalf("Close: %d", e)
		} else if e == api.OK {
			w.closed = true
		}
	case 5:
		if e := s.Commit(id); (e == api.OK) != (w != nil && w.closed && !w.asked) {
			p.t.Fatalf("Commit: %d", e)
		} else if e == api.OK {
			w.asked = true
		}
	case 6:
		if p.rnd.Intn(4) == 0 {
			if e := s.Abort(id); (e == api.OK) != (w != nil) {
				p.t.Fatalf("Abort: %d", e)
			}
			delete(p.writing, id)
		}
	case 7:
		s.Compact()
	case 8:
		s.Resize(p.rnd.Intn(30000))
	case 9:
		_, e := s.Step(id)
		p.did(id, n, e)
	default:
		if turn, _, e := s.Tick(p.rnd.Intn(100) - 50); e != api.ErrMissing {
			p.did(turn, n, e)
		}
	}
}

func (p *player) check() {
	s := p.spool
	if !slices.Equal(s.List(), p.names) || s.Len() != len(p.names) || !s.Store().Sound() {
		p.t.Fatalf("the entries are %q, not %q", s.List(), p.names)
	}
	if len(s.Store().Heaps()) != len(p.names)+len(p.writing) {
		p.t.Fatal("the heap of one that has ended is there")
	}
	for name, data := range p.data {
		if b, e := s.Get(name); !bytes.Equal(b, data) || e != api.OK {
			p.t.Fatalf("%q: %d bytes of %d, %d", name, len(b), len(data), e)
		}
	}
}

func TestP39_6(t *testing.T) {
	for seed := range int64(6) {
		s := begin(t, 20000, 5)
		p := &player{t: t, rnd: rand.New(rand.NewSource(seed)), spool: s, data: map[string][]byte{}, writing: map[int]*writing{}}
		for i := range 3000 {
			p.move()
			if i%20 == 0 {
				p.check()
			}
		}
		if len(p.names) < 10 {
			t.Errorf("only %d entries", len(p.names))
		}
	}
}

func TestP39_7(t *testing.T) {
	rnd := rand.New(rand.NewSource(397))
	for i := range 100 {
		s := begin(t, 1<<20, 3)
		ok(t, s.Open(1, entry("a", i%10)))
		ok(t, s.Open(2, entry("b", 6)))
		for range rnd.Intn(4) {
			b := make([]byte, rnd.Intn(3000))
			rnd.Read(b)
			ok(t, s.Write(1, b))
			for range rnd.Intn(3) {
				s.Step(1)
			}
		}
		ok(t, s.Close(1))
		ok(t, s.Commit(1))
		bound := s.Bound(1)
		for n := 0; s.Len() == 0; n++ {
			if _, e := s.Step(1); e != api.OK || n == bound {
				t.Fatalf("step %d of %d: %d", n, bound, e)
			}
		}
	}
}

// The steps of others do not keep a session that is full from going on when there is space.
func TestP39_6Full(t *testing.T) {
	s := begin(t, 600, 2)
	ok(t, s.Open(1, entry("a", 0)))
	ok(t, s.Open(2, entry("b", 0)))
	ok(t, s.Write(1, make([]byte, 500)))
	s.Step(1)
	ok(t, s.Write(2, []byte(strings.Repeat("z", 300))))
	ok(t, s.Close(2))
	ok(t, s.Commit(2))
	for range 3 {
		if is, e := s.Step(2); !is || e != api.ErrFull {
			t.Errorf("%v, %d", is, e)
		}
	}
	ok(t, s.Abort(1))
	for range 3 {
		if is, e := s.Step(2); !is || e != api.OK {
			t.Errorf("%v, %d", is, e)
		}
	}
	if b, e := s.Get("b"); string(b) != strings.Repeat("z", 300) || e != api.OK {
		t.Errorf("Get: %d", e)
	}
}

package play_test

import (
	"encoding/hex"
	"math/rand"
	"slices"
	"strings"
	"testing"

	"punnet/api"
	"punnet/build"
	"punnet/op"
	. "punnet/play"
	"punnet/quota"
	"punnet/spool"
	"punnet/strict"
)

var config = spool.Config{Size: 1 << 16, Sessions: 3, Quota: quota.Quota{Waiting: 1000, Size: 2000}}

func begin(t *testing.T) *World {
	t.Helper()
	w, e := New(config)
	if e != api.OK {
		t.Fatal(e)
	}
	return w
}

func TestP41_1New(t *testing.T) {
	for want, c := range map[api.Errno]spool.Config{api.ErrArg: {}, api.ErrRange: {Size: -1, Sessions: 1, Quota: config.Quota}} {
		if w, e := New(c); w != nil || e != want {
			t.Errorf("%+v: %d", c, e)
		}
	}
	w := begin(t)
	if w.Spool() == nil || w.Spool().Free() != 1<<16 || w.Spool() != w.Spool() {
		t.Error("Spool")
	}
	if b, is := w.Exported(0); b != nil || is {
		t.Error("Exported by a new world")
	}
}

// do carries out lines, each followed by what it is to tell, after "= ".
func do(t *testing.T, w *World, script string) {
	t.Helper()
	for _, line := range strings.Split(strings.TrimSpace(script), "\n") {
		if strings.TrimSpace(line) == "" {
			continue
		}
		line, want, is := strings.Cut(strings.TrimSpace(line), " = ")
		if !is {
			t.Fatalf("nothing is told of %q", line)
		}
		o, e := op.Parse(line)
		if e != api.OK {
			t.Fatalf("%q: %d", line, e)
		}
		if got := w.Do(o); !slices.Equal(got, strings.Split(want, "|")) {
			t.Errorf("%q: %q, not %q", line, got, want)
		}
	}
}

func TestP41_1Do(t *testing.T) {
	do(t, begin(t), `
		list = 0
		free = 65536
		compact = 0
		tick 0 = error 7
		phase 1 = no 3
		phase -1 = no 3
		get a = error 7
		step 1 = error 11
		write 1 00 = error 11
		close 1 = error 11
		commit 1 = error 11
		abort 1 = error 11
		open 64 0 2024-05-06T07:08:10 a = error 11
		open 1 10 2024-05-06T07:08:10 a = error 1
		open 1 0 2024-05-06T07:08:10 a/b = ok
		open 1 0 2024-05-06T07:08:10 c = error 8
		open 2 0 2024-05-06T07:08:10 a/b = error 6
		phase 1 = yes 0
		step 1 = no
		write 1 616263 = ok
		write 1 - = ok
		step 1 = yes
		free = 65533
		commit 1 = error 8
		close 1 = ok
		close 1 = error 8
		phase 1 = yes 1
		commit 1 = ok
		tick -3 = 1 yes
		phase 1 = yes 2
		list = 0
		step 1 = yes
		list = 1|a/b
		get a/b = 616263
		phase 1 = no 3
		open 2 6 2024-05-06T07:08:10 c = ok
		open 1 0 2024-05-06T07:08:10 d = ok
		tick 1 = 1 no
		write 1 646464 = ok
		step 1 = yes
		close 2 = ok
		commit 2 = ok
		tick 0 = 2 yes
		step 2 = yes
		tick 1 = 2 yes
		abort 1 = ok
		abort 1 = error 11
		list = 2|a/b|c
		get c = -
		compact = 2
		compact = 0
		resize 5 = ok
		resize 4 = error 14
		resize -1 = error 2
		free = 0
		open 1 0 2024-05-06T07:08:10 e = ok
		write 1 00 = ok
		step 1 = error 3
		tick 0 = error 3
		open 0 0 2024-05-06T07:08:10 f = ok
		open 2 0 2024-05-06T07:08:10 g = ok
		open 3 0 2024-05-06T07:08:10 h = error 12
		strict - = no
		strict 00 = no
		strict 504b0506000000000000000000000000000000000000 = yes 0
	`)
}

func TestP41_1Wrong(t *testing.T) {
	w := begin(t)
	for _, o := range []op.Op{{}, {Kind: op.List, N: []int{1}}, {Kind: op.Step}, {Kind: op.Open, N: []int{1, 1}}, {Kind: 99}, {Kind: op.Write, N: []int{0}, Data: make([]byte, 5000)}, {Kind: op.Get}} {
		if got := w.Do(o); !slices.Equal(got, []string{"error 1"}) {
			t.Errorf("%+v: %q", o, got)
		}
	}
	if len(w.Spool().Events()) != 0 {
		t.Error("a wrong operation did something")
	}
}

func TestP41_1Strict(t *testing.T) {
	when := api.Time{Year: 2024, Month: 5, Day: 6}
	x, _ := build.Make("x/1", when, []byte("abc"), 0)
	y, _ := build.Make("y 2", when, nil, 6)
	b, _ := build.Archive([]build.Entry{x, y})
	w := begin(t)
	do(t, w, "strict "+hex.EncodeToString(b)+" = yes 2|x/1|y 2")
	do(t, w, "strict "+hex.EncodeToString(b[1:])+" = no")
}

const fill = `
	open 1 0 2024-05-06T07:08:10 a = ok
	write 1 616263 = ok
	close 1 = ok
	commit 1 = ok
	step 1 = yes
	step 1 = yes
	step 1 = yes
`

func TestP41_2(t *testing.T) {
	w := begin(t)
	do(t, w, fill+`
		pull 5 10 = error 7
		export 5 0 0 = ok
		export 5 0 0 = error 6
		export 6 1 0 = ok
		export 7 0 -1 = ok
		pull 5 0 = error 1
		pull 5 10 = no 10
		pull 6 1000000 = yes 227
		pull 6 10 = error 7
		pull 5 90 = no 90
		export 5 0 0 = error 6
	`)
	if b, is := w.Exported(5); b != nil || is {
		t.Error("an export that is not complete")
	}
	do(t, w, "pull 5 3 = yes 3\n pull 7 119 = yes 119\n export 5 0 0 = ok\n pull 5 1 = no 1")
	for id, want := range map[int]struct {
		len         int
		wide, later bool
	}{5: {103, false, false}, 6: {227, true, false}, 7: {119, false, true}} {
		b, is := w.Exported(id)
		list, e := strict.Read(b, strict.All())
		if len(b) != want.len || !is || e != api.OK || len(list) != 1 || list[0].Name != "a" || list[0].Wide != want.wide || list[0].Later != want.later {
			t.Errorf("the export %d: %d bytes, %d", id, len(b), e)
		}
		clear(b)
	}
	if b, _ := w.Exported(5); b[0] != 'P' {
		t.Error("the world's memory is handed out")
	}
	if _, is := w.Exported(8); is {
		t.Error("an export that was not")
	}
	do(t, w, strings.ReplaceAll(fill, "10 a", "10 b")+"pull 5 5000 = yes 102\n export 5 0 0 = ok\n pull 5 5000 = yes 184")
	b, _ := w.Exported(5)
	if names, e := strict.Names(b); !slices.Equal(names, []string{"a", "b"}) || e != api.OK {
		t.Errorf("the last export: %q, %d", names, e)
	}
}

// What others pull is not what Do pulled.
func TestP41_2Others(t *testing.T) {
	w := begin(t)
	do(t, w, "export 5 0 0 = ok\n pull 5 10 = no 10")
	w.Spool().Pull(5, 1000)
	if _, is := w.Exported(5); is {
		t.Error("Do did not complete it")
	}
	do(t, w, "export 5 0 0 = ok\n pull 5 1000 = yes 22")
	if b, _ := w.Exported(5); len(b) != 22 {
		t.Errorf("%d bytes", len(b))
	}
}

func TestP41_3(t *testing.T) {
	if text, line, e := Run(config, "list"); text != "> list\n0\n" || line != 0 || e != api.OK {
		t.Errorf("%q, %d, %d", text, line, e)
	}
	if text, line, e := Run(config, ""); text != "" || line != 0 || e != api.OK {
		t.Errorf("%q, %d, %d", text, line, e)
	}
	if text, line, e := Run(config, "list\n#\nlost\n"); text != "" || line != 3 || e != api.ErrLine {
		t.Errorf("%q, %d, %d", text, line, e)
	}
	if text, line, e := Run(spool.Config{}, "list\n#\nlost\n"); text != "" || line != 3 || e != api.ErrLine {
		t.Errorf("%q, %d, %d", text, line, e)
	}
	if text, line, e := Run(spool.Config{Size: -1, Sessions: 1, Quota: config.Quota}, "list"); text != "" || line != 0 || e != api.ErrRange {
		t.Errorf("%q, %d, %d", text, line, e)
	}
	script := "# a script\nopen 1 6 2024-05-06T07:08:10 a b\n\nclose 1\ncommit 1\ntick 0\ntick 0\ntick 0\nlist\nget a b\nget c"
	want := "> open 1 6 2024-05-06T07:08:10 a b\nok\n> close 1\nok\n> commit 1\nok\n> tick 0\n1 yes\n> tick 0\n1 yes\n> tick 0\n1 yes\n> list\n1\na b\n> get a b\n-\n> get c\nerror 7\n"
	if text, line, e := Run(config, script); text != want || line != 0 || e != api.OK {
		t.Errorf("%q, %d, %d", text, line, e)
	}
}

func TestP41_4(t *testing.T) {
	rnd := rand.New(rand.NewSource(41))
	when := api.Time{Year: 2024, Month: 5, Day: 6}
	for range 20 {
		var list []op.Op
		for range 300 {
			o := op.Op{Kind: 1 + rnd.Intn(16)}
			for !o.Right() && len(o.N) < 4 {
				o.Time, o.Name, o.Data = api.Time{}, "", nil
				switch o.Kind {
				case op.Open:
					o.Time, o.Name = when, string(rune('a'+rnd.Intn(10)))
				case op.Get:
					o.Name = string(rune('a' + rnd.Intn(10)))
				case op.Write, op.Strict:
					o.Data = make([]byte, rnd.Intn(100))
					rnd.Read(o.Data)
				}
				if !o.Right() {
					o.N = append(o.N, rnd.Intn(5))
				}
			}
			if o.Kind == op.Resize {
				o.N[0] *= 10000
			}
			list = append(list, o)
		}
		text := op.Text(list...)
		first, _, e := Run(config, text)
		second, _, _ := Run(config, text)
		if first != second || e != api.OK || !strings.HasPrefix(first, "> ") {
			t.Fatalf("%d, %q", e, first)
		}
	}
}

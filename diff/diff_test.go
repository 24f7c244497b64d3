package diff_test

import (
	"bytes"
	"math/rand"
	"slices"
	"strconv"
	"strings"
	"testing"

	"punnet/api"
	"punnet/build"
	. "punnet/diff"
)

var when = api.Time{Year: 2024, Month: 5, Day: 6, Hour: 7, Minute: 8, Sec: 10}

func entry(name, data string) build.Entry {
	return build.Entry{Name: name, Time: when, Data: []byte(data), Packed: []byte(data)}
}

// entries returns one for each letter, whose bytes are the letter itself.
func entries(letters string) []build.Entry {
	var list []build.Entry
	for _, c := range letters {
		list = append(list, entry(string(c), string(c)))
	}
	return list
}

// told writes changes as a text.
func told(list []Change) string {
	var words []string
	for _, c := range list {
		words = append(words, strconv.Itoa(c.Kind)+c.Name)
	}
	return strings.Join(words, " ")
}

func TestP47_1Order(t *testing.T) {
	cases := []struct{ was, now, want string }{
		{"", "", ""}, {"abc", "abc", ""}, {"abc", "cab", "5c"}, {"", "ab", "1a 1b"}, {"ab", "", "2a 2b"}, {"abc", "axc", "2b 1x"}, {"abc", "bx", "2a 2c 1x"},
		{"ab", "ba", "5a"}, {"abc", "cba", "5b 5a"}, {"abcd", "badc", "5a 5c"}, {"abcdef", "defabc", "5a 5b 5c"}, {"abcdef", "cdabef", "5a 5b"}, {"abcd", "cdab", "5a 5b"}, {"abcd", "xdcbay", "1x 5c 5b 5a 1y"},
		{"abcde", "ebcda", "5e 5a"}, {"abcd", "bdac", "5a 5c"}, {"abcd", "cadb", "5a 5b"},
		{"abc", "xcab", "1x 5c"}, {"abc", "cxayb", "5c 1x 1y"},
	}
	for _, c := range cases {
		if got := told(Entries(entries(c.was), entries(c.now))); got != c.want {
			t.Errorf("from %q to %q: %s", c.was, c.now, got)
		}
	}
}

func TestP47_1Kinds(t *testing.T) {
	was := entries("abc")
	cases := []struct {
		change func(x *build.Entry)
		want   string
	}{
		{func(x *build.Entry) {}, ""}, {func(x *build.Entry) { x.Data = []byte("x") }, "3b"}, {func(x *build.Entry) { x.Data = nil }, "3b"}, {func(x *build.Entry) { x.Time.Sec += 2 }, "4b"}, {func(x *build.Entry) { x.Method = 8 }, "4b"},
		{func(x *build.Entry) { x.Wide = true }, "4b"}, {func(x *build.Entry) { x.Later = true }, "4b"}, {func(x *build.Entry) { x.Packed = []byte("other") }, ""},
		{func(x *build.Entry) { x.Data, x.Time, x.Wide = []byte("x"), api.Time{}, true }, "3b"}, {func(x *build.Entry) { x.Name = "z" }, "2b 1z"},
	}
	for i, c := range cases {
		now := entries("abc")
		c.change(&now[1])
		if got := told(Entries(was, now)); got != c.want {
			t.Errorf("case %d: %s", i, got)
		}
		now[1], now[2] = now[2], now[1]
		want := c.want
		if want == "" {
			want = "5b"
		}
		got := told(Entries(was, now))
		if got != want && !(c.want == "2b 1z" && got == c.want) {
			t.Errorf("case %d, moved: %s", i, got)
		}
	}
	// Those that have changed take part in what stays.
	now := entries("cab")
	now[1].Data = []byte("x")
	if got := told(Entries(was, now)); got != "5c 3a" {
		t.Errorf("%s", got)
	}
	now[1].Data, now[0].Time = []byte("a"), api.Time{}
	if got := told(Entries(was, now)); got != "4c" {
		t.Errorf("%s", got)
	}
}

// stay returns those that stay, by the words of the chapter.
func stay(list []int) []int {
	longest := make([]int, len(list))
	before := make([]int, len(list))
	last := -1
	for i := range list {
		longest[i], before[i] = 1, -1
		for k := range i {
			if list[k] < list[i] && longest[k]+1 > longest[i] {
				longest[i], before[i] = longest[k]+1, k
			}
		}
		if last < 0 || longest[i] > longest[last] {
			last = i
		}
	}
	var chosen []int
	for ; last >= 0; last = before[last] {
		chosen = append(chosen, last)
	}
	return chosen
}

func TestP47_1Stay(t *testing.T) {
	rnd := rand.New(rand.NewSource(47))
	for range 3000 {
		n := rnd.Intn(26)
		letters := "abcdefghijklmnopqrstuvwxyz"[:n]
		perm := rnd.Perm(n)
		now, moved := "", ""
		for _, k := range perm {
			now += letters[k : k+1]
		}
		chosen := stay(perm)
		for i := range perm {
			if !slices.Contains(chosen, i) {
				moved += " 5" + now[i:i+1]
			}
		}
		if got := told(Entries(entries(letters), entries(now))); got != strings.TrimSpace(moved) {
			t.Fatalf("from %q to %q: %s, not %s", letters, now, got, moved)
		}
	}
}

// A long list takes little time.
func TestP47_1Long(t *testing.T) {
	const n = 50000
	was, now := make([]build.Entry, n), make([]build.Entry, n)
	for i, k := range rand.New(rand.NewSource(471)).Perm(n) {
		was[i].Name = strconv.Itoa(i)
		now[k].Name = strconv.Itoa(i)
	}
	if list := Entries(was, now); len(list) < n-1000 || len(list) >= n-100 {
		t.Errorf("%d of %d have moved", len(list), n)
	}
}

func TestP47_2Archives(t *testing.T) {
	a, e := build.Archive(entries("abc"))
	if e != api.OK {
		t.Fatal(e)
	}
	b, _ := build.Archive(entries("cadb"))
	if list, e := Archives(a, b); told(list) != "5c 1d" || e != api.OK {
		t.Errorf("%s, %d", told(list), e)
	}
	if list, e := Archives(a, a); len(list) != 0 || e != api.OK {
		t.Errorf("%s, %d", told(list), e)
	}
	for _, c := range [][2][]byte{{a[1:], b}, {a, b[:len(b)-1]}, {nil, nil}, {nil, a}} {
		if list, e := Archives(c[0], c[1]); list != nil || e == api.OK {
			t.Errorf("no archive: %s, %d", told(list), e)
		}
	}
}

func same(a, b []build.Entry) bool {
	return slices.EqualFunc(a, b, func(x, y build.Entry) bool {
		return x.Header() == y.Header() && bytes.Equal(x.Data, y.Data) && bytes.Equal(x.Packed, y.Packed)
	})
}

func TestP47_2Merge(t *testing.T) {
	was, now := entries("abc"), entries("xcya")
	now[1].Data, now[1].Time = []byte("new"), api.Time{}
	want := []build.Entry{now[3], was[1], now[1], now[0], now[2]}
	got := Merge(was, now)
	if !same(got, want) {
		t.Errorf("%+v", got)
	}
	for _, x := range got {
		x.Data[0], x.Packed[0] = '!', '!'
	}
	if string(was[1].Data) != "b" || string(now[0].Packed) != "x" || string(now[1].Data) != "new" {
		t.Error("Merge returned its arguments' memory")
	}
	if got := Merge(nil, now); !same(got, now) {
		t.Error("Merge with nothing before")
	}
	if got := Merge(was, nil); !same(got, was) {
		t.Error("Merge with nothing now")
	}
	if len(Merge(nil, nil)) != 0 {
		t.Error("Merge of nothing")
	}
}

func TestP47_3(t *testing.T) {
	rnd := rand.New(rand.NewSource(473))
	some := func() []build.Entry {
		var list []build.Entry
		for _, i := range rnd.Perm(12)[:rnd.Intn(12)] {
			x := entry(strconv.Itoa(i), strconv.Itoa(rnd.Intn(2)))
			x.Wide = rnd.Intn(2) == 0
			list = append(list, x)
		}
		return list
	}
	for range 500 {
		was, now := some(), some()
		if list := Entries(was, was); len(list) != 0 {
			t.Fatalf("changes from a list to itself: %s", told(list))
		}
		merged := Merge(was, now)
		for _, c := range Entries(was, merged) {
			if c.Kind == Removed || c.Kind == Moved {
				t.Fatalf("from a list to its Merge: %+v", c)
			}
		}
		for _, c := range Entries(now, merged) {
			if c.Kind != Added && c.Kind != Moved {
				t.Fatalf("from now to the Merge: %+v", c)
			}
		}
	}
}

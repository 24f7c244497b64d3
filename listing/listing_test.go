package listing_test

import (
	"math"
	"math/rand"
	"slices"
	"strconv"
	"strings"
	"testing"

	"punnet/api"
	"punnet/dos"
	. "punnet/listing"
	"punnet/name"
	"punnet/ratio"
	"punnet/table"
)

var when = api.Time{Year: 2024, Month: 5, Day: 6, Hour: 7, Minute: 8, Sec: 10}

func row(name string, size, packed int, t api.Time) table.Row {
	return table.Row{Name: name, Size: size, Packed: packed, Time: t}
}

func names(rows []table.Row) string {
	var list []string
	for _, r := range rows {
		list = append(list, r.Name)
	}
	return strings.Join(list, " ")
}

func TestP45_1(t *testing.T) {
	later := when
	later.Sec += 2
	rows := []table.Row{row("a.b", 5, 4, later), row("a/z", 0, 0, when), row("c", 9, 9, when), row("a", 5, 1, api.Time{}), row("b", 0, 3, later)}
	cases := []struct {
		key        int
		want, back string
	}{
		{ByPlace, "a.b a/z c a b", "b a c a/z a.b"}, {ByName, "a a/z a.b b c", "c b a.b a/z a"}, {BySize, "a/z b a.b a c", "c a a.b b a/z"},
		{ByTime, "a a/z c a.b b", "b a.b c a/z a"}, {ByShare, "a/z a a.b c b", "b c a.b a a/z"}, {-1, "a.b a/z c a b", "b a c a/z a.b"}, {5, "a.b a/z c a b", "b a c a/z a.b"}, {math.MaxInt, "a.b a/z c a b", "b a c a/z a.b"},
	}
	before := slices.Clone(rows)
	for _, c := range cases {
		if got := names(Sort(rows, c.key, false)); got != c.want {
			t.Errorf("by %d: %s", c.key, got)
		}
		if got := names(Sort(rows, c.key, true)); got != c.back {
			t.Errorf("by %d, back: %s", c.key, got)
		}
	}
	Sort(rows, ByPlace, false)[0].Name = "x"
	if !slices.Equal(rows, before) {
		t.Error("Sort changed its argument")
	}
	if len(Sort(nil, ByName, true)) != 0 {
		t.Error("Sort of none")
	}
	for _, key := range []int{ByPlace, ByName, BySize, ByTime, ByShare} {
		same := []table.Row{row("n", 1, 1, when), row("n", 1, 1, when), row("n", 1, 1, when)}
		for i := range same {
			same[i].Heap = i
		}
		if got := Sort(same, key, false); !slices.Equal(got, same) {
			t.Errorf("by %d: equal rows do not keep their order", key)
		}
		if got := Sort(same, key, true); got[0].Heap != 2 || got[2].Heap != 0 {
			t.Errorf("by %d, back: equal rows keep their order", key)
		}
	}
}

func TestP45_2Pad(t *testing.T) {
	cases := []struct {
		s     string
		width int
		want  string
	}{
		{"7", 3, "  7"}, {"abc", 3, "abc"}, {"abc", 2, "abc"}, {"", 2, "  "}, {"", 0, ""}, {"x", -5, "x"}, {"é", 3, " é"}, {"x", math.MinInt, "x"},
		{"x", 1000, strings.Repeat(" ", 999) + "x"}, {"x", 1001, strings.Repeat(" ", 999) + "x"}, {"", math.MaxInt, strings.Repeat(" ", 1000)},
		{strings.Repeat("y", 1500), 2000, strings.Repeat("y", 1500)},
	}
	for _, c := range cases {
		if got := Pad(c.s, c.width); got != c.want {
			t.Errorf("Pad(%q, %d) = %q", c.s, c.width, got)
		}
	}
}

func TestP45_2Line(t *testing.T) {
	r := row("dir/a b", 1234, 617, when)
	cases := []struct {
		change func(r *table.Row)
		want   string
	}{
		{func(r *table.Row) {}, "    1234      617  50% 2024-05-06T07:08:10 stored dir/a b"},
		{func(r *table.Row) { r.Method = 8 }, "    1234      617  50% 2024-05-06T07:08:10 deflated dir/a b"},
		{func(r *table.Row) { r.Method, r.Time = 3, api.Time{} }, "    1234      617  50% - odd dir/a b"},
		{func(r *table.Row) { r.Size, r.Packed, r.Method = 0, 0, -1 }, "       0        0   0% 2024-05-06T07:08:10 odd dir/a b"},
		{func(r *table.Row) { r.Size, r.Packed = 0, 5 }, "       0        5 100% 2024-05-06T07:08:10 stored dir/a b"},
		{func(r *table.Row) { r.Size, r.Packed, r.Name = 1<<30, 1<<30, "" }, "1073741824 1073741824 100% 2024-05-06T07:08:10 stored "},
		{func(r *table.Row) { r.Size, r.Packed, r.Time.Sec = 3, 1, 1 }, "       3        1  33% - stored dir/a b"},
	}
	for _, c := range cases {
		x := r
		c.change(&x)
		if got := Line(x); got != c.want {
			t.Errorf("%q, not %q", got, c.want)
		}
	}
}

func TestP45_3Lines(t *testing.T) {
	rows := []table.Row{row("a", 10, 5, when), row("b", 20, 4, api.Time{}), row("c", 0, 1, when)}
	want := []string{Line(rows[0]), Line(rows[1]), Line(rows[2]), "      30       10  33% 3"}
	seq := Lines(rows)
	text := Text(rows)
	rows[0].Name = "changed"
	for range 2 {
		if got := slices.Collect(seq); !slices.Equal(got, want) {
			t.Errorf("%q", got)
		}
	}
	for n := range want {
		var got []string
		for line := range seq {
			got = append(got, line)
			if len(got) == n+1 {
				break
			}
		}
		if !slices.Equal(got, want[:n+1]) {
			t.Errorf("left after %d: %q", n+1, got)
		}
	}
	if text != strings.Join(want, "\n")+"\n" {
		t.Errorf("Text: %q", text)
	}
	if Text(nil) != "       0        0   0% 0\n" {
		t.Errorf("Text of none: %q", Text(nil))
	}
}

func TestP45_3Dirs(t *testing.T) {
	if len(Dirs(nil)) != 0 {
		t.Error("Dirs of none")
	}
	var rows []table.Row
	for i, s := range []string{"b/x", "top", "a.b/y", "a/z/q", "a/w", "b/y", "other", "a/z/r", "/odd"} {
		rows = append(rows, row(s, 1<<i, 0, when))
	}
	want := []Dir{{"", 3, 2 + 64 + 256}, {"a", 1, 16}, {"a/z", 2, 8 + 128}, {"a.b", 1, 4}, {"b", 2, 1 + 32}}
	for range 5 {
		if got := Dirs(rows); !slices.Equal(got, want) {
			t.Errorf("%+v", got)
		}
	}
	rows = append(rows, row("//", 5, 0, when), row("a//x", 6, 0, when))
	if got := Dirs(rows); len(got) != 7 || got[0].Name != "" || got[1] != (Dir{"/", 1, 5}) || got[3] != (Dir{"a/", 1, 6}) {
		t.Errorf("%+v", got)
	}
}

func TestP45_4(t *testing.T) {
	rnd := rand.New(rand.NewSource(45))
	for range 100 {
		rows := make([]table.Row, rnd.Intn(30))
		for i := range rows {
			rows[i] = row("d"+strconv.Itoa(rnd.Intn(3))+"/"+strconv.Itoa(rnd.Intn(5)), rnd.Intn(5), rnd.Intn(5), api.Time{Year: rnd.Intn(3)})
			rows[i].Heap = i
		}
		for key := range 6 {
			for _, back := range []bool{false, true} {
				got := Sort(rows, key, back)
				seen := map[int]bool{}
				for i, r := range got {
					seen[r.Heap] = true
					if r != rows[r.Heap] {
						t.Fatal("a row has changed")
					}
					if i == 0 {
						continue
					}
					a, b := got[i-1], r
					if back {
						a, b = b, a
					}
					wrong := map[int]bool{
						ByName: name.Less(b.Name, a.Name), BySize: b.Size < a.Size, ByTime: dos.Compare(b.Time, a.Time) < 0,
						ByShare: ratio.Compare(ratio.Share(b.Packed, b.Size), ratio.Share(a.Packed, a.Size)) < 0,
					}
					if wrong[key] {
						t.Fatalf("by %d: %+v before %+v", key, a, b)
					}
				}
				if len(seen) != len(rows) {
					t.Fatal("rows are missing")
				}
			}
		}
		files, size := 0, 0
		for _, d := range Dirs(rows) {
			files += d.Files
			size += d.Size
		}
		all := 0
		for _, r := range rows {
			all += r.Size
		}
		if files != len(rows) || size != all {
			t.Fatalf("%d files of %d, %d bytes of %d", files, len(rows), size, all)
		}
	}
}

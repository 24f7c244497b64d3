package build_test

import (
	"archive/zip"
	"bytes"
	"io"
	"math"
	"math/rand"
	"slices"
	"strconv"
	"strings"
	"testing"

	"punnet/api"
	. "punnet/build"
	"punnet/central"
	"punnet/crc"
	"punnet/deflate"
	"punnet/desc"
	"punnet/finish"
	"punnet/inflate"
	"punnet/local"
)

var when = api.Time{Year: 2024, Month: 5, Day: 6, Hour: 7, Minute: 8, Sec: 10}

func entry(t *testing.T, name, data string, level int, wide, later bool) Entry {
	t.Helper()
	x, e := Make(name, when, []byte(data), level)
	if e != api.OK {
		t.Fatal(e)
	}
	x.Wide, x.Later = wide, later
	return x
}

func entries(t *testing.T) []Entry {
	t.Helper()
	var list []Entry
	for i, data := range []string{"", "abc", strings.Repeat("text and more text, ", 200)} {
		for level := range 2 {
			for form := range 4 {
				name := "dir/é" + strconv.Itoa(100*i+10*level+form)
				list = append(list, entry(t, name, data, 6*level, form&1 == 1, form&2 == 2))
			}
		}
	}
	return list
}

func TestP31_1Header(t *testing.T) {
	for _, x := range entries(t) {
		want := local.Header{Name: x.Name, Time: when, Method: x.Method, CRC: crc.Sum(x.Data), Packed: len(x.Packed), Size: len(x.Data), Wide: x.Wide, Later: x.Later}
		if x.Header() != want || x.Check() != api.OK {
			t.Errorf("%+v, %d", x.Header(), x.Check())
		}
	}
	if h := (Entry{}).Header(); h != (local.Header{}) {
		t.Errorf("%+v", h)
	}
}

func TestP31_1Check(t *testing.T) {
	packed := func(s string) []byte {
		b, _ := deflate.All([]byte(s), 6)
		return b
	}
	base := Entry{Name: "a", Time: when, Method: 8, Data: []byte("abc"), Packed: packed("abc")}
	cases := []struct {
		change func(x *Entry)
		want   api.Errno
	}{
		{func(x *Entry) {}, api.OK},
		{func(x *Entry) { x.Name, x.Packed = "", nil }, api.ErrName}, {func(x *Entry) { x.Time, x.Packed = api.Time{}, nil }, api.ErrTime},
		{func(x *Entry) { x.Method = 1 }, api.ErrMethod}, {func(x *Entry) { x.Method = 0 }, api.ErrSize},
		{func(x *Entry) { x.Method, x.Packed = 0, []byte("abd") }, api.ErrEntry}, {func(x *Entry) { x.Method, x.Packed = 0, []byte("abc") }, api.OK},
		{func(x *Entry) { x.Method, x.Packed, x.Data = 0, nil, nil }, api.OK},
		{func(x *Entry) { x.Packed = append(packed("abc"), 0) }, api.ErrEntry}, {func(x *Entry) { x.Packed = x.Packed[:len(x.Packed)-1] }, api.ErrEntry},
		{func(x *Entry) { x.Packed = packed("abd") }, api.ErrEntry}, {func(x *Entry) { x.Packed = packed("ab") }, api.ErrEntry}, {func(x *Entry) { x.Packed = packed("abcd") }, api.ErrEntry},
		{func(x *Entry) { x.Packed = nil }, api.ErrEntry}, {func(x *Entry) { x.Packed = []byte{7} }, api.ErrEntry},
		{func(x *Entry) { x.Packed = slices.Concat([]byte{0, 0, 0, 255, 255}, packed("abc")) }, api.OK},
		{func(x *Entry) { x.Data = make([]byte, api.MaxSize+1) }, api.ErrSize}, {func(x *Entry) { x.Packed = make([]byte, 2*api.MaxSize+1) }, api.ErrSize},
	}
	for i, c := range cases {
		x := base
		c.change(&x)
		if x.Check() != c.want {
			t.Errorf("case %d: %d, not %d", i, x.Check(), c.want)
		}
		if b, e := Record(x); e != c.want || (b == nil) != (e != api.OK) {
			t.Errorf("case %d: Record: %d", i, e)
		}
		if b, e := Archive([]Entry{x}); e != c.want || (b == nil) != (e != api.OK) {
			t.Errorf("case %d: Archive: %d", i, e)
		}
	}
}

func none(x Entry) bool {
	return x.Name == "" && x.Time == api.Time{} && x.Method == 0 && x.Data == nil && x.Packed == nil
}

func TestP31_1Make(t *testing.T) {
	data := []byte(strings.Repeat("abcd", 100))
	for level := range 10 {
		x, e := Make("n", when, data, level)
		if e != api.OK || x.Name != "n" || x.Time != when || x.Wide || x.Later || !bytes.Equal(x.Data, data) || x.Check() != api.OK {
			t.Errorf("level %d: %d", level, e)
		}
		want, _ := deflate.All(data, level)
		if level == 0 && (x.Method != 0 || !bytes.Equal(x.Packed, data)) || level > 0 && (x.Method != 8 || !bytes.Equal(x.Packed, want)) {
			t.Errorf("level %d: the method %d", level, x.Method)
		}
		x.Data[0]++
		if data[0] != 'a' || level == 0 && x.Packed[0] != 'a' {
			t.Error("Make shares memory")
		}
	}
	for _, level := range []int{-1, 10, math.MinInt, math.MaxInt} {
		if x, e := Make("", api.Time{}, data, level); !none(x) || e != api.ErrArg {
			t.Errorf("level %d: %d", level, e)
		}
	}
	for _, level := range []int{0, 9} {
		if x, e := Make("a//b", api.Time{}, data, level); !none(x) || e != api.ErrName {
			t.Errorf("a wrong name: %d", e)
		}
		if x, e := Make("a", api.Time{}, data, level); !none(x) || e != api.ErrTime {
			t.Errorf("a wrong time: %d", e)
		}
		if x, e := Make("a", when, make([]byte, api.MaxSize+1), level); !none(x) || e != api.ErrSize {
			t.Errorf("too many bytes: %d", e)
		}
	}
}

func TestP31_2Record(t *testing.T) {
	for _, x := range entries(t) {
		h := x.Header()
		behind, e := Behind(h)
		var want []byte
		if x.Later {
			want, _ = desc.Descriptor{CRC: h.CRC, Packed: h.Packed, Size: h.Size, Wide: h.Wide}.Encode()
		}
		if !bytes.Equal(behind, want) || e != api.OK {
			t.Errorf("Behind %+v: % x, %d", h, behind, e)
		}
		head, _ := h.Encode()
		if r, e := Record(x); !bytes.Equal(r, slices.Concat(head, x.Packed, want)) || e != api.OK {
			t.Errorf("Record of %+v: %d", h, e)
		}
	}
	if b, e := Behind(local.Header{Size: -1, Later: true}); b != nil || e != api.ErrSize {
		t.Errorf("a wrong size: %d", e)
	}
	if b, e := Behind(local.Header{Size: -1}); len(b) != 0 || e != api.OK {
		t.Errorf("a wrong size that is not told later: %d", e)
	}
}

func TestP31_2Directory(t *testing.T) {
	var headers []local.Header
	var places []int
	for i, x := range entries(t) {
		headers, places = append(headers, x.Header()), append(places, 1000*i)
	}
	for n := range headers {
		for _, list := range [][]local.Header{headers[:n], headers[:0]} {
			at := places[:len(list)]
			var want []byte
			wide := false
			for i, h := range list {
				b, _ := central.Header{Header: h, At: at[i]}.Encode()
				want = append(want, b...)
				wide = wide || h.Wide
			}
			tail, _ := finish.Tail{Entries: len(list), Size: len(want), At: 77777, Wide: wide}.Encode()
			if b, e := Directory(list, at, 77777); !bytes.Equal(b, append(want, tail...)) || e != api.OK {
				t.Errorf("%d headers: %d", len(list), e)
			}
		}
	}
	good, bad, worse := headers[0], headers[1], headers[2]
	bad.Time.Month, worse.Name = 13, ""
	many := slices.Repeat([]local.Header{good}, 1001)
	cases := []struct {
		list   []local.Header
		places []int
		at     int
		want   api.Errno
	}{
		{nil, []int{0}, 0, api.ErrArg}, {[]local.Header{bad}, nil, -1, api.ErrArg}, {[]local.Header{bad, worse}, []int{0, 0}, -1, api.ErrTime}, {[]local.Header{good, worse, bad}, []int{0, 0, 0}, 0, api.ErrName},
		{[]local.Header{good}, []int{-1}, 0, api.ErrSize}, {[]local.Header{good}, []int{0}, -1, api.ErrSize}, {nil, nil, 1<<32 - 1, api.ErrSize}, {many, make([]int, 1001), 0, api.ErrSize},
	}
	for i, c := range cases {
		if b, e := Directory(c.list, c.places, c.at); b != nil || e != c.want {
			t.Errorf("case %d: %d", i, e)
		}
	}
}

// unzip holds an archive against the entries, with another implementation.
func unzip(t *testing.T, b []byte, list []Entry) {
	t.Helper()
	r, err := zip.NewReader(bytes.NewReader(b), int64(len(b)))
	if err != nil || len(r.File) != len(list) {
		t.Fatalf("%v", err)
	}
	for i, f := range r.File {
		x := list[i]
		in, err := f.Open()
		if err != nil {
			t.Fatal(err)
		}
		data, err := io.ReadAll(in)
		m := f.Modified
		if err != nil || !bytes.Equal(data, x.Data) || f.Name != x.Name || int(f.Method) != x.Method || f.CRC32 != crc.Sum(x.Data) || m.Year() != 2024 || m.Minute() != 8 || m.Second() != 10 {
			t.Errorf("%s: %v, %v", x.Name, err, m)
		}
	}
}

func TestP31_3(t *testing.T) {
	if b, e := Archive(nil); len(b) != 22 || e != api.OK {
		t.Errorf("no entries: %d bytes, %d", len(b), e)
	}
	list := entries(t)
	for n := range list {
		var want []byte
		var headers []local.Header
		var places []int
		for _, x := range list[:n] {
			r, _ := Record(x)
			headers, places = append(headers, x.Header()), append(places, len(want))
			want = append(want, r...)
		}
		d, _ := Directory(headers, places, len(want))
		b, e := Archive(list[:n])
		if !bytes.Equal(b, append(want, d...)) || e != api.OK {
			t.Errorf("%d entries: %d", n, e)
		}
		unzip(t, b, list[:n])
	}
}

func TestP31_3Errors(t *testing.T) {
	a, b := entry(t, "a", "x", 0, false, false), entry(t, "b", "y", 6, true, true)
	wrong := a
	wrong.Packed = []byte("z")
	named := b
	named.Name = ""
	cases := []struct {
		list []Entry
		want api.Errno
	}{
		{[]Entry{a, b, a}, api.ErrTwice}, {[]Entry{a, wrong}, api.ErrEntry}, {[]Entry{a, b, b, named}, api.ErrTwice}, {[]Entry{named, a, a}, api.ErrName}, {[]Entry{wrong, named}, api.ErrEntry},
	}
	for i, c := range cases {
		if out, e := Archive(c.list); out != nil || e != c.want {
			t.Errorf("case %d: %d", i, e)
		}
	}
	many := make([]Entry, 1001)
	for i := range many {
		many[i] = a
		many[i].Name = strconv.Itoa(i)
	}
	if out, e := Archive(many[:1000]); e != api.OK {
		t.Errorf("as many as may be: %d bytes, %d", len(out), e)
	}
	many[0] = named
	if out, e := Archive(many); out != nil || e != api.ErrLong {
		t.Errorf("too many: %d", e)
	}
}

func TestP31_4(t *testing.T) {
	list := entries(t)
	rnd := rand.New(rand.NewSource(31))
	seen := map[string]int{}
	for range 100 {
		rnd.Shuffle(len(list), func(i, k int) { list[i], list[k] = list[k], list[i] })
		some := list[:rnd.Intn(len(list))]
		b, _ := Archive(some)
		bytes, key := 22, ""
		for _, x := range some {
			bytes += 30 + 46 + 2*len(x.Name) + len(x.Packed)
			if x.Later {
				bytes += desc.Descriptor{Wide: x.Wide}.Len()
			}
			if x.Wide {
				bytes += 20 + 28
			}
			key += x.Name + " "
		}
		if slices.ContainsFunc(some, func(x Entry) bool { return x.Wide }) {
			bytes += 76
		}
		if len(b) != bytes {
			t.Errorf("%d bytes, not %d", len(b), bytes)
		}
		seen[key]++
		if _, _, e := inflate.All(b, 0); e == api.OK {
			t.Error("an archive is a block")
		}
	}
	for _, x := range list[:4] {
		a, _ := Archive([]Entry{x})
		for _, change := range []func(x *Entry){
			func(x *Entry) { x.Name += "x" }, func(x *Entry) { x.Time.Sec += 2 }, func(x *Entry) { x.Wide = !x.Wide }, func(x *Entry) { x.Later = !x.Later },
			func(x *Entry) { x.Method, x.Data, x.Packed = 0, []byte("other"), []byte("other") },
			func(x *Entry) {
				x.Packed, _ = deflate.All(x.Data, 0)
				x.Method = 8
				x.Packed = append([]byte{0, 0, 0, 255, 255}, x.Packed...)
			},
		} {
			y := x
			change(&y)
			if b, e := Archive([]Entry{y}); bytes.Equal(a, b) || e != api.OK {
				t.Errorf("%+v and %+v: %d", x.Header(), y.Header(), e)
			}
		}
	}
}

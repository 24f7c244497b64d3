package strict_test

import (
	"archive/zip"
	"bytes"
	"math"
	"math/rand"
	"slices"
	"strconv"
	"strings"
	"testing"

	"punnet/api"
	"punnet/build"
	"punnet/central"
	"punnet/desc"
	"punnet/finish"
	"punnet/local"
	. "punnet/strict"
)

var when = api.Time{Year: 2024, Month: 5, Day: 6, Hour: 7, Minute: 8, Sec: 10}

func made(t *testing.T, name, data string, level int, wide, later bool) build.Entry {
	t.Helper()
	x, e := build.Make(name, when, []byte(data), level)
	if e != api.OK {
		t.Fatal(e)
	}
	x.Wide, x.Later = wide, later
	return x
}

func archive(t *testing.T, list ...build.Entry) []byte {
	t.Helper()
	b, e := build.Archive(list)
	if e != api.OK {
		t.Fatal(e)
	}
	return b
}

func samples(t *testing.T) [][]build.Entry {
	t.Helper()
	var all []build.Entry
	for form := range 8 {
		data := []string{"abc", "", strings.Repeat("some text ", 10)}[form%3]
		all = append(all, made(t, "d/é"+strconv.Itoa(form), data, form&4, form&1 == 1, form&2 == 2))
	}
	return [][]build.Entry{nil, all[:1], all[1:2], all[2:3], all[3:4], all[4:6], all[6:], {all[0], all[4], all[2]}, all}
}

func same(a, b []build.Entry) bool {
	return slices.EqualFunc(a, b, func(x, y build.Entry) bool {
		return x.Header() == y.Header() && bytes.Equal(x.Data, y.Data) && bytes.Equal(x.Packed, y.Packed)
	})
}

func TestP32_1(t *testing.T) {
	if All() != (Limits{Entries: 1000, Name: 255, Total: 1 << 24}) {
		t.Errorf("All: %+v", All())
	}
	for i, list := range samples(t) {
		b := archive(t, list...)
		got, e := Read(b, All())
		if !same(got, list) || e != api.OK {
			t.Errorf("sample %d: %d entries, %d", i, len(got), e)
		}
		for _, x := range got {
			if len(x.Data) > 0 {
				x.Data[0]++
				x.Packed[0]++
			}
		}
		if !bytes.Equal(b, archive(t, list...)) {
			t.Error("Read returned its argument's memory")
		}
	}
	for _, b := range [][]byte{nil, []byte("PK"), make([]byte, 22), []byte("PK\x05\x06")} {
		if list, e := Read(b, All()); list != nil || e == api.OK {
			t.Errorf("%q: %d", b, e)
		}
	}
}

func TestP32_1Limits(t *testing.T) {
	list := []build.Entry{made(t, "abc", "12345", 0, false, false), made(t, "de", "678", 6, false, true)}
	b := archive(t, list...)
	cases := []struct {
		limit Limits
		want  bool
	}{
		{Limits{2, 3, 8}, true}, {Limits{1, 3, 8}, false}, {Limits{2, 2, 8}, false}, {Limits{2, 3, 7}, false}, {Limits{}, false}, {Limits{-1, -1, -1}, false},
		{Limits{math.MaxInt, math.MaxInt, math.MaxInt}, true}, {Limits{2, 3, math.MinInt}, false},
	}
	for _, c := range cases {
		got, e := Read(b, c.limit)
		if (e == api.OK) != c.want || c.want && !same(got, list) || !c.want && got != nil {
			t.Errorf("%+v: %d", c.limit, e)
		}
	}
	empty := archive(t)
	for _, limit := range []Limits{{}, {0, -1, 0}} {
		if _, e := Read(empty, limit); e != api.OK {
			t.Errorf("no entries with %+v: %d", limit, e)
		}
	}
	for _, limit := range []Limits{{-1, 0, 0}, {0, 0, -1}} {
		if _, e := Read(empty, limit); e == api.OK {
			t.Errorf("no entries with %+v", limit)
		}
	}
	half := strings.Repeat("x", api.MaxSize/2)
	b = archive(t, made(t, "a", half, 1, false, false), made(t, "b", half, 1, false, false))
	if _, e := Read(b, All()); e != api.OK {
		t.Errorf("as many bytes as may be: %d", e)
	}
	b = archive(t, made(t, "a", half, 1, false, false), made(t, "b", half+"x", 1, false, false))
	if _, e := Read(b, All()); e == api.OK {
		t.Error("more bytes than may be")
	}
}

// strictly holds that bytes are only read as the entries whose archive they are.
func strictly(t *testing.T, what string, b []byte) bool {
	t.Helper()
	list, e := Read(b, All())
	if e != api.OK {
		if list != nil {
			t.Errorf("%s: entries beside the error %d", what, e)
		}
		return false
	}
	if again, e := build.Archive(list); e != api.OK || !bytes.Equal(again, b) {
		t.Errorf("%s: it is read, but is no archive of what was read", what)
	}
	return true
}

func TestP32_3Changes(t *testing.T) {
	rnd := rand.New(rand.NewSource(32))
	for i, list := range samples(t) {
		b := archive(t, list...)
		what := "sample " + strconv.Itoa(i)
		for at := range b {
			for k := range 8 {
				bad := bytes.Clone(b)
				bad[at] ^= 1 << k
				strictly(t, what+" with a changed bit", bad)
			}
			if strictly(t, what+" without a byte", slices.Delete(bytes.Clone(b), at, at+1)) {
				t.Errorf("%s is read without the byte %d", what, at)
			}
			if strictly(t, what+" with a byte more", slices.Insert(bytes.Clone(b), at, byte(rnd.Intn(256)))) {
				t.Errorf("%s is read with a byte more at %d", what, at)
			}
			if strictly(t, what+" cut off", b[:at]) {
				t.Errorf("%s is read up to %d", what, at)
			}
		}
		if strictly(t, what+" with a byte behind", append(bytes.Clone(b), 0)) {
			t.Errorf("%s is read with a byte behind", what)
		}
	}
}

// assemble puts the parts of an archive together, as they are given.
func assemble(records [][]byte, headers []central.Header, tail func(*finish.Tail)) []byte {
	b := slices.Concat(records...)
	x := finish.Tail{Entries: len(headers), At: len(b)}
	for _, h := range headers {
		r, _ := h.Encode()
		b = append(b, r...)
		x.Wide = x.Wide || h.Wide
	}
	x.Size = len(b) - x.At
	if tail != nil {
		tail(&x)
	}
	end, _ := x.Encode()
	return append(b, end...)
}

func TestP32_3Assembled(t *testing.T) {
	x, y := made(t, "a", "abc", 0, false, false), made(t, "b", strings.Repeat("xyz", 9), 6, false, true)
	rx, _ := build.Record(x)
	ry, _ := build.Record(y)
	hx, hy := central.Header{Header: x.Header()}, central.Header{Header: y.Header(), At: len(rx)}
	both, headers := [][]byte{rx, ry}, []central.Header{hx, hy}
	with := func(h central.Header, change func(h *central.Header)) central.Header {
		change(&h)
		return h
	}
	if b := assemble(both, headers, nil); !bytes.Equal(b, archive(t, x, y)) {
		t.Fatal("the parts are not those of the archive")
	}
	head, _ := x.Header().Encode()
	behind, _ := build.Behind(y.Header())
	other, _ := desc.Descriptor{CRC: y.Header().CRC, Packed: len(y.Packed) - 1, Size: len(y.Data)}.Encode()
	lied := x.Header()
	lied.CRC++
	wrongHead, _ := lied.Encode()
	lied = local.Header{Name: "c", Time: when}
	otherHead, _ := lied.Encode()
	trailing := build.Entry{Name: "b", Time: when, Method: 8, Data: y.Data, Packed: append(bytes.Clone(y.Packed), 0)}
	trailingHead, _ := trailing.Header().Encode()
	cases := map[string][]byte{
		"headers in another order":      assemble(both, []central.Header{hy, hx}, nil),
		"records in another order":      assemble([][]byte{ry, rx}, []central.Header{with(hx, func(h *central.Header) { h.At = len(ry) }), with(hy, func(h *central.Header) { h.At = 0 })}, nil),
		"a record without a header":     assemble(both, headers[:1], nil),
		"a header without a record":     assemble(both[:1], headers, nil),
		"a header twice":                assemble(both[:1], []central.Header{hx, hx}, nil),
		"an entry twice":                assemble([][]byte{rx, rx}, []central.Header{hx, with(hx, func(h *central.Header) { h.At = len(rx) })}, nil),
		"another name":                  assemble(both, []central.Header{with(hx, func(h *central.Header) { h.Name = "c" }), hy}, nil),
		"another sum":                   assemble(both, []central.Header{with(hx, func(h *central.Header) { h.CRC++ }), hy}, nil),
		"another sum everywhere":        assemble([][]byte{wrongHead, x.Packed, ry}, []central.Header{with(hx, func(h *central.Header) { h.CRC++ }), hy}, nil),
		"another size":                  assemble(both, []central.Header{hx, with(hy, func(h *central.Header) { h.Size++ })}, nil),
		"another time":                  assemble(both, []central.Header{hx, with(hy, func(h *central.Header) { h.Time.Sec += 2 })}, nil),
		"wide in the directory alone":   assemble(both, []central.Header{hx, with(hy, func(h *central.Header) { h.Wide = true })}, nil),
		"not later in the directory":    assemble(both, []central.Header{hx, with(hy, func(h *central.Header) { h.Later = false })}, nil),
		"another descriptor":            assemble([][]byte{rx, ry[:len(ry)-len(behind)], other}, headers, nil),
		"no descriptor":                 assemble([][]byte{rx, ry[:len(ry)-len(behind)]}, headers, nil),
		"a byte between records":        assemble([][]byte{rx, {0}, ry}, []central.Header{hx, with(hy, func(h *central.Header) { h.At++ })}, nil),
		"a byte before records":         assemble([][]byte{{0}, rx, ry}, []central.Header{with(hx, func(h *central.Header) { h.At++ }), with(hy, func(h *central.Header) { h.At++ })}, nil),
		"a byte behind records":         assemble([][]byte{rx, ry, {0}}, headers, nil),
		"an empty record that is alone": assemble([][]byte{otherHead, rx, ry}, []central.Header{with(hx, func(h *central.Header) { h.At = len(otherHead) }), with(hy, func(h *central.Header) { h.At += len(otherHead) })}, nil),
		"a byte behind the blocks":      assemble([][]byte{trailingHead, trailing.Packed}, []central.Header{{Header: trailing.Header()}}, nil),
		"a wide end":                    assemble(both, headers, func(x *finish.Tail) { x.Wide = true }),
		"one entry less at the end":     assemble(both, headers, func(x *finish.Tail) { x.Entries-- }),
		"one entry more at the end":     assemble(both, headers, func(x *finish.Tail) { x.Entries++ }),
		"another size at the end":       assemble(both, headers, func(x *finish.Tail) { x.Size-- }),
		"another offset at the end":     assemble(both, headers, func(x *finish.Tail) { x.At++; x.Size-- }),
		"an offset behind the end":      assemble(both, headers, func(x *finish.Tail) { x.At = 1 << 30 }),
		"a head alone":                  assemble([][]byte{head}, []central.Header{hx}, nil),
	}
	for what, b := range cases {
		if strictly(t, what, b) {
			t.Errorf("%s is read", what)
		}
	}
	wide := made(t, "a", "abc", 0, true, false)
	rw, _ := build.Record(wide)
	if strictly(t, "a narrow end", assemble([][]byte{rw}, []central.Header{{Header: wide.Header()}}, func(x *finish.Tail) { x.Wide = false })) {
		t.Error("a narrow end of wide records is read")
	}
	var others bytes.Buffer
	w := zip.NewWriter(&others)
	f, _ := w.Create("a.txt")
	f.Write([]byte("abc"))
	w.Close()
	if strictly(t, "another program's archive", others.Bytes()) {
		t.Error("another program's archive is read")
	}
}

func TestP32_2(t *testing.T) {
	list := samples(t)[8]
	b := archive(t, list...)
	names, e := Names(b)
	if len(names) != len(list) || e != api.OK {
		t.Errorf("Names: %q, %d", names, e)
	}
	for i, x := range list {
		if names[i] != x.Name {
			t.Errorf("the name %d is %q", i, names[i])
		}
		if data, e := Get(b, x.Name); !bytes.Equal(data, x.Data) || e != api.OK {
			t.Errorf("Get: %q, %d", data, e)
		}
	}
	for _, name := range []string{"", "d", "d/é", "d/é00"} {
		if data, e := Get(b, name); data != nil || e != api.ErrMissing {
			t.Errorf("Get of %q: %d", name, e)
		}
	}
	if names, e := Names(archive(t)); len(names) != 0 || e != api.OK {
		t.Errorf("no entries: %q, %d", names, e)
	}
	for _, bad := range [][]byte{nil, b[1:], b[:len(b)-1]} {
		_, want := Read(bad, All())
		if names, e := Names(bad); names != nil || e != want || e == api.OK {
			t.Errorf("Names of no archive: %d", e)
		}
		if data, e := Get(bad, "a"); data != nil || e != want {
			t.Errorf("Get of no archive: %d", e)
		}
	}
}

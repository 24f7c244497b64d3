package op_test

import (
	"bytes"
	"math"
	"math/rand"
	"reflect"
	"slices"
	"strconv"
	"strings"
	"testing"

	"punnet/api"
	. "punnet/op"
)

var when = api.Time{Year: 2024, Month: 5, Day: 6, Hour: 7, Minute: 8, Sec: 10}

var words = []string{"open", "write", "close", "commit", "abort", "step", "tick", "list", "get", "export", "pull", "compact", "resize", "free", "phase", "strict"}

// has tells what the kinds have: their numbers, and t, n, d for a time, a name, bytes.
var has = []string{"2tn", "1d", "1", "1", "1", "1", "1", "0", "0n", "3", "2", "0", "1", "0", "1", "0d"}

// some returns an operation of a kind that is right.
func some(kind int) Op {
	form := has[kind-1]
	o := Op{Kind: kind}
	for i := range int(form[0] - '0') {
		o.N = append(o.N, 10*i-3)
	}
	if strings.Contains(form, "t") {
		o.Time = when
	}
	if strings.Contains(form, "n") {
		o.Name = "a b.txt"
	}
	if strings.Contains(form, "d") {
		o.Data = []byte{0, 0xab, 0xff}
	}
	return o
}

func same(a, b Op) bool {
	return a.Kind == b.Kind && slices.Equal(a.N, b.N) && a.Time == b.Time && a.Name == b.Name && bytes.Equal(a.Data, b.Data)
}

func TestP40_1Words(t *testing.T) {
	for i, w := range words {
		if Word(i+1) != w || Kind(w) != i+1 {
			t.Errorf("%q: %q, %d", w, Word(i+1), Kind(w))
		}
	}
	for _, kind := range []int{0, 17, -1, math.MinInt, math.MaxInt} {
		if Word(kind) != "" {
			t.Errorf("Word(%d) = %q", kind, Word(kind))
		}
	}
	for _, w := range []string{"", "Open", "ope", "opens", " open", "last"} {
		if Kind(w) != 0 {
			t.Errorf("Kind(%q) = %d", w, Kind(w))
		}
	}
	if Open != 1 || Strict != 16 || Get != 9 {
		t.Error("the kinds have other numbers")
	}
}

func TestP40_1Right(t *testing.T) {
	for kind := 1; kind <= 16; kind++ {
		form := has[kind-1]
		if !some(kind).Right() {
			t.Errorf("%+v is not right", some(kind))
		}
		changes := map[string]func(o *Op){
			"one number more": func(o *Op) { o.N = append(o.N, 1) },
			"another time":    func(o *Op) { o.Time = api.Time{Year: 2024} },
			"another name":    func(o *Op) { o.Name = strings.Repeat("a/../b", len(form)) },
			"too many bytes":  func(o *Op) { o.Data = make([]byte, MaxData+1) },
			"another kind":    func(o *Op) { o.Kind += 100 },
			"no kind":         func(o *Op) { o.Kind = 0 },
		}
		if len(some(kind).N) > 0 {
			changes["one number less"] = func(o *Op) { o.N = o.N[1:] }
		}
		if strings.Contains(form, "t") {
			changes["no time"] = func(o *Op) { o.Time = api.Time{} }
		} else {
			changes["a time"] = func(o *Op) { o.Time = when }
		}
		if strings.Contains(form, "n") {
			changes["no name"] = func(o *Op) { o.Name = "" }
		} else {
			changes["a name"] = func(o *Op) { o.Name = "a" }
		}
		if !strings.Contains(form, "d") {
			changes["bytes"] = func(o *Op) { o.Data = []byte{1} }
		}
		for what, change := range changes {
			o := some(kind)
			change(&o)
			if o.Right() || o.Line() != "" {
				t.Errorf("%s: %+v is right", what, o)
			}
		}
		if strings.Contains(form, "d") {
			for _, n := range []int{0, 1, MaxData} {
				o := some(kind)
				o.Data = make([]byte, n)
				if !o.Right() {
					t.Errorf("%d bytes are not right", n)
				}
			}
		}
	}
	if (Op{}).Right() || (Op{Kind: math.MinInt}).Right() || (Op{Kind: 17}).Right() {
		t.Error("other kinds are right")
	}
}

func TestP40_2Numbers(t *testing.T) {
	for _, n := range []int{0, 1, -1, 9, 10, 1234567890, -55, math.MaxInt, math.MinInt} {
		s := Digits(n)
		if s != strconv.FormatInt(int64(n), 10) {
			t.Errorf("Digits(%d) = %q", n, s)
		}
		if got, ok := Number(s); got != n || !ok {
			t.Errorf("Number(%q) = %d", s, got)
		}
	}
	for _, s := range []string{"", "-", "-0", "+1", "01", "00", "1 ", " 1", "1.0", "1e3", "0x1", "1_0", "9223372036854775808", "-9223372036854775809", "x", "--1", "-01", "١"} {
		if n, ok := Number(s); n != 0 || ok {
			t.Errorf("Number(%q) = %d", s, n)
		}
	}
}

func TestP40_2Clock(t *testing.T) {
	if s := Clock(when); s != "2024-05-06T07:08:10" {
		t.Errorf("%q", s)
	}
	for _, x := range []api.Time{when, {Year: 1980, Month: 1, Day: 1}, {Year: 2107, Month: 12, Day: 31, Hour: 23, Minute: 59, Sec: 58}} {
		if got, ok := ReadClock(Clock(x)); got != x || !ok || len(Clock(x)) != 19 {
			t.Errorf("%v: %q, %v", x, Clock(x), got)
		}
	}
	for _, x := range []api.Time{{}, {Year: 2024, Month: 2, Day: 30}, {Year: 2024, Month: 1, Day: 1, Sec: 1}, {Year: 99999, Month: 1, Day: 1}, {Year: -1, Month: 1, Day: 1}} {
		if Clock(x) != "" {
			t.Errorf("%v: %q", x, Clock(x))
		}
	}
	good := "2024-05-06T07:08:10"
	for i := range good {
		for _, c := range []byte("- T:x/+\x00\xff") {
			bad := good[:i] + string([]byte{c}) + good[i+1:]
			if x, ok := ReadClock(bad); ok && bad != good || !ok && x != (api.Time{}) {
				t.Errorf("ReadClock(%q) = %v", bad, x)
			}
		}
		if _, ok := ReadClock(good[:i] + good[i+1:]); ok {
			t.Errorf("ReadClock without the sign %d", i)
		}
	}
	for _, s := range []string{"", "2024-05-06", "2024-02-30T00:00:00", "2024-05-06T07:08:11", "1979-12-31T23:59:58", "2024-05-06T07:08:10 ", "2024-5-6T7:8:10", "2024-05-06t07:08:10", "2108-01-01T00:00:00", "+024-05-06T07:08:10"} {
		if x, ok := ReadClock(s); x != (api.Time{}) || ok {
			t.Errorf("ReadClock(%q) = %v", s, x)
		}
	}
}

func TestP40_2Hex(t *testing.T) {
	if Hex(nil) != "-" || Hex([]byte{}) != "-" || Hex([]byte{0, 0xab, 0x1f}) != "00ab1f" {
		t.Error("Hex")
	}
	all := make([]byte, 256)
	for i := range all {
		all[i] = byte(i)
	}
	if b, ok := ReadHex(Hex(all)); !bytes.Equal(b, all) || !ok {
		t.Error("ReadHex of Hex")
	}
	if b, ok := ReadHex("-"); len(b) != 0 || !ok {
		t.Error("ReadHex of no bytes")
	}
	for _, s := range []string{"", "0", "000", "--", "AB", "aB", "0g", "g0", " 00", "00 ", "0x00", "-0", "0-", "\xff\xff"} {
		if b, ok := ReadHex(s); b != nil || ok {
			t.Errorf("ReadHex(%q) = %v", s, b)
		}
	}
}

func TestP40_3(t *testing.T) {
	lines := []struct {
		o    Op
		line string
	}{
		{Op{Kind: Open, N: []int{3, 6}, Time: when, Name: "a b.txt"}, "open 3 6 2024-05-06T07:08:10 a b.txt"},
		{Op{Kind: Write, N: []int{-1}, Data: []byte("abc")}, "write -1 616263"}, {Op{Kind: Write, N: []int{0}}, "write 0 -"},
		{Op{Kind: Close, N: []int{1}}, "close 1"}, {Op{Kind: Commit, N: []int{1}}, "commit 1"}, {Op{Kind: Abort, N: []int{1}}, "abort 1"}, {Op{Kind: Step, N: []int{1}}, "step 1"},
		{Op{Kind: Tick, N: []int{-5}}, "tick -5"}, {Op{Kind: List}, "list"}, {Op{Kind: Get, Name: " x  y "}, "get  x  y "}, {Op{Kind: Export, N: []int{1, 0, 1}}, "export 1 0 1"},
		{Op{Kind: Pull, N: []int{1, 100}}, "pull 1 100"}, {Op{Kind: Compact}, "compact"}, {Op{Kind: Resize, N: []int{1000}}, "resize 1000"}, {Op{Kind: Free}, "free"},
		{Op{Kind: Phase, N: []int{2}}, "phase 2"}, {Op{Kind: Strict, Data: []byte{0xff}}, "strict ff"}, {Op{Kind: Strict}, "strict -"},
	}
	for _, c := range lines {
		if c.o.Line() != c.line {
			t.Errorf("%+v: %q", c.o, c.o.Line())
		}
		if o, e := Parse(c.line); !same(o, c.o) || e != api.OK {
			t.Errorf("%q: %+v, %d", c.line, o, e)
		}
	}
	bad := []string{
		"", " ", "list ", " list", "list 1", "List", "step", "step ", "step 1 ", "step  1", "step 01", "step x", "step 1 2", "step 1\n", "tick +1",
		"write 1", "write 1 ", "write 1 6", "write 1 6G", "write 1 AB", "write 1 - ", "write 1  00", "write - 00", "write 1 " + strings.Repeat("00", 4097),
		"open 3 6 2024-05-06T07:08:10", "open 3 6 2024-05-06T07:08:10 ", "open 3 6 2024-02-30T07:08:10 a", "open 3 2024-05-06T07:08:10 a", "open 3 6 a", "open 3 6 2024-05-06T07:08:10 a/../b", "open 3 6  2024-05-06T07:08:10 a",
		"get", "get ", "get a:b", "get /", "export 1 0", "export 1 0 1 1", "pull 1", "compact 1", "free 0", "strict", "strict 0", "strict zz", "nothing", "# list", "phase 99999999999999999999",
	}
	for _, line := range bad {
		if o, e := Parse(line); !same(o, Op{}) || o.N != nil || o.Data != nil || e != api.ErrText {
			t.Errorf("Parse(%q) = %+v, %d", line, o, e)
		}
	}
	if o, e := Parse("write 1 " + strings.Repeat("00", 4096)); len(o.Data) != 4096 || e != api.OK {
		t.Errorf("as many bytes as may be: %d", e)
	}
}

func TestP40_4(t *testing.T) {
	if Text() != "" || Text(Op{}, Op{Kind: List, N: []int{1}}) != "" {
		t.Error("Text of none that is right")
	}
	if s := Text(Op{Kind: List}, Op{}, Op{Kind: Step, N: []int{4}}); s != "list\nstep 4\n" {
		t.Errorf("Text: %q", s)
	}
	cases := []struct {
		text string
		want []Op
		line int
		e    api.Errno
	}{
		{"", nil, 0, api.OK}, {"\n\n\n", nil, 0, api.OK}, {"#", nil, 0, api.OK}, {"# nothing\n#list\n", nil, 0, api.OK},
		{"list", []Op{{Kind: List}}, 0, api.OK}, {"list\n", []Op{{Kind: List}}, 0, api.OK}, {"\nlist\n# x\n\nstep 1\nfree", []Op{{Kind: List}, {Kind: Step, N: []int{1}}, {Kind: Free}}, 0, api.OK},
		{"list\nlost", nil, 2, api.ErrLine}, {"x", nil, 1, api.ErrLine}, {"\n#\nlist\n\n #\nx\n", nil, 5, api.ErrLine}, {"list\r\n", nil, 1, api.ErrLine}, {"list\n ", nil, 2, api.ErrLine},
	}
	for _, c := range cases {
		list, line, e := Script(c.text)
		if !slices.EqualFunc(list, c.want, same) || line != c.line || e != c.e || e != api.OK && list != nil {
			t.Errorf("%q: %+v, %d, %d", c.text, list, line, e)
		}
	}
}

func TestP40_5(t *testing.T) {
	rnd := rand.New(rand.NewSource(40))
	for range 300 {
		var list, right []Op
		for range rnd.Intn(20) {
			o := some(1 + rnd.Intn(16))
			for i := range o.N {
				o.N[i] = rnd.Intn(2000) - 1000
			}
			if rnd.Intn(4) == 0 {
				o.N = append(o.N, 5)
			} else {
				right = append(right, o)
			}
			list = append(list, o)
		}
		before := Text(list...)
		got, line, e := Script(before)
		if !slices.EqualFunc(got, right, same) || line != 0 || e != api.OK {
			t.Fatalf("%q: %d, %d", before, line, e)
		}
		if again := Text(got...); again != before || !reflect.DeepEqual(Text(list...), before) {
			t.Fatalf("%q becomes %q", before, again)
		}
	}
}

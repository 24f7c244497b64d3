package token_test

import (
	"bytes"
	"math"
	"math/rand"
	"slices"
	"testing"

	"punnet/api"
	. "punnet/token"
)

func TestP14_1(t *testing.T) {
	cases := []struct {
		token Token
		size  int
	}{
		{Token{}, 1}, {Token{Lit: 255}, 1}, {Token{Lit: 5, Dist: 1}, 0}, {Token{Dist: 1}, 0}, {Token{Dist: -1}, 0},
		{Token{Len: 3, Dist: 1}, 3}, {Token{Len: 258, Dist: 32768}, 258}, {Token{Len: 2, Dist: 1}, 0}, {Token{Len: 1, Dist: 1}, 0},
		{Token{Len: 259, Dist: 1}, 0}, {Token{Len: 3, Dist: 0}, 0}, {Token{Len: 3, Dist: 32769}, 0}, {Token{Len: 3, Dist: -1}, 0},
		{Token{Lit: 1, Len: 3, Dist: 1}, 0}, {Token{Len: -3, Dist: 1}, 0}, {Token{Len: math.MaxInt, Dist: math.MaxInt}, 0}, {Token{Len: math.MinInt, Dist: 5}, 0},
	}
	var list []Token
	sum := 0
	for _, c := range cases {
		if c.token.Right() != (c.size > 0) || c.token.Size() != c.size {
			t.Errorf("%+v: %v, %d", c.token, c.token.Right(), c.token.Size())
		}
		list = append(list, c.token)
		sum += c.size
		if Sizes(list) != sum {
			t.Errorf("Sizes of %d", len(list))
		}
	}
	if Sizes(nil) != 0 {
		t.Error("Sizes of none")
	}
}

func TestP14_2Expand(t *testing.T) {
	long := bytes.Repeat([]byte("x"), 32768)
	cases := []struct {
		before string
		list   []Token
		want   string
		e      api.Errno
	}{
		{"", nil, "", api.OK}, {"abc", nil, "", api.OK},
		{"", []Token{{Lit: 'a'}, {Len: 3, Dist: 1}}, "aaaa", api.OK},
		{"ab", []Token{{Len: 5, Dist: 2}, {Lit: 'c'}, {Len: 3, Dist: 8}}, "ababacaba", api.OK},
		{"ab", []Token{{Len: 3, Dist: 3}}, "", api.ErrDist},
		{"", []Token{{Len: 3, Dist: 1}}, "", api.ErrDist},
		{"a", []Token{{Lit: 'b'}, {Len: 3, Dist: 3}, {Len: 2, Dist: 1}}, "", api.ErrDist},
		{"a", []Token{{Lit: 'b'}, {Len: 2, Dist: 1}, {Len: 3, Dist: 3}}, "", api.ErrArg},
		{"a", []Token{{Len: 3, Dist: 32769}}, "", api.ErrArg}, {"a", []Token{{Lit: 3, Dist: 1}}, "", api.ErrArg},
		{string(long[1:]), []Token{{Len: 3, Dist: 32768}}, "", api.ErrDist},
		{"abc" + string(long[3:]), []Token{{Len: 3, Dist: 32768}}, "abc", api.OK},
		{"zz" + "abc" + string(long[3:]), []Token{{Len: 3, Dist: 32768}}, "abc", api.OK},
	}
	for i, c := range cases {
		if b, e := Expand([]byte(c.before), c.list); string(b) != c.want || e != c.e || e != api.OK && b != nil {
			t.Errorf("case %d: %q, %d", i, b, e)
		}
	}
	before := append(make([]byte, 0, 50), "abc"...)
	b, _ := Expand(before, []Token{{Len: 3, Dist: 3}})
	b[0] = 'x'
	if string(before) != "abc" || before[:4][3] != 0 {
		t.Error("Expand changed its argument")
	}
}

func TestP14_2Literals(t *testing.T) {
	if list := Literals([]byte{0, 255, 7}); !slices.Equal(list, []Token{{Lit: 0}, {Lit: 255}, {Lit: 7}}) {
		t.Errorf("%v", list)
	}
	if len(Literals(nil)) != 0 {
		t.Error("Literals of none")
	}
}

func TestP14_3(t *testing.T) {
	list := []Token{{Lit: 'a'}, {Len: 3, Dist: 1}, {Len: 2, Dist: 9}, {Lit: 'b'}}
	cases := []struct{ n, at int }{
		{-1, 0}, {math.MinInt, 0}, {0, 0}, {1, 1}, {2, 1}, {3, 1}, {4, 3}, {5, 4}, {6, 4}, {math.MaxInt, 4},
	}
	for _, c := range cases {
		a, b := Cut(list, c.n)
		if !slices.Equal(a, list[:c.at]) || !slices.Equal(b, list[c.at:]) {
			t.Errorf("Cut at %d: %v, %v", c.n, a, b)
		}
	}
	a, b := Cut([]Token{{Len: 1}, {Lit: 'x'}}, 0)
	if len(a) != 1 || len(b) != 1 {
		t.Error("a token that stands for nothing belongs to the prefix")
	}
	a, b = Cut(list, 4)
	a[0], b[0] = Token{}, Token{}
	_ = append(a, Token{Lit: 'z'})
	if list[0].Lit != 'a' || list[3].Lit != 'b' || b[0].Lit != 0 {
		t.Error("the lists share memory")
	}
	if a, b := Cut(nil, 5); len(a) != 0 || len(b) != 0 {
		t.Error("Cut of none")
	}
}

func TestP14_4(t *testing.T) {
	rnd := rand.New(rand.NewSource(14))
	for range 200 {
		before := make([]byte, rnd.Intn(200))
		rnd.Read(before)
		have := len(before)
		var list []Token
		for range 50 {
			if have == 0 || rnd.Intn(2) == 0 {
				list = append(list, Token{Lit: byte(rnd.Intn(256))})
			} else {
				list = append(list, Token{Len: 3 + rnd.Intn(256), Dist: 1 + rnd.Intn(min(have, 32768))})
			}
			have += list[len(list)-1].Size()
		}
		whole, e := Expand(before, list)
		if e != api.OK || len(whole) != Sizes(list) {
			t.Fatalf("%d, %d bytes", e, len(whole))
		}
		at := rnd.Intn(51)
		first, _ := Expand(before, list[:at])
		second, e := Expand(slices.Concat(before, first), list[at:])
		if e != api.OK || !bytes.Equal(slices.Concat(first, second), whole) {
			t.Fatalf("divided at %d: %d", at, e)
		}
	}
}

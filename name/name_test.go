package name_test

import (
	"math/rand"
	"slices"
	"strings"
	"testing"
	"unicode/utf8"

	"punnet/api"
	. "punnet/name"
)

func TestP26_1ASCII(t *testing.T) {
	if !ASCII("") || !ASCII("a/b.txt") || !ASCII("\x00~") {
		t.Error("ASCII")
	}
	for b := range 256 {
		if ASCII("a"+string([]byte{byte(b)})+"c") != (b <= 126) {
			t.Errorf("the byte %d", b)
		}
	}
}

// form returns the UTF-8 form of a code point, as the chapter says it.
func form(r rune) string {
	six := func(shift int) byte { return 0x80 | byte(r>>shift)&0x3f }
	switch {
	case r < 0x80:
		return string([]byte{byte(r)})
	case r < 0x800:
		return string([]byte{0xc0 | byte(r>>6), six(0)})
	case r < 0x10000:
		return string([]byte{0xe0 | byte(r>>12), six(6), six(0)})
	}
	return string([]byte{0xf0 | byte(r>>18), six(12), six(6), six(0)})
}

func TestP26_1Rune(t *testing.T) {
	for r := rune(0); r <= 0x110005; r++ {
		is := r <= 0x10ffff && (r < 0xd800 || r > 0xdfff)
		s := form(r)
		got, n, ok := Rune(s + "z")
		if is && (got != r || n != len(s) || !ok) || !is && (got != 0 || n != 0 || ok) {
			t.Fatalf("Rune of %x: %x, %d, %v", r, got, n, ok)
		}
		if UTF8(s) != is || UTF8("a"+s+"b") != is {
			t.Fatalf("UTF8 of %x", r)
		}
		if is && len(s) > 1 {
			if got, n, ok := Rune(s[:len(s)-1]); got != 0 || n != 0 || ok || UTF8(s[1:]) {
				t.Fatalf("a part of %x: %x", r, got)
			}
		}
	}
	for _, s := range []string{"", "\x80", "\xbf", "\xc0\x80", "\xc1\xbf", "\xe0\x80\x80", "\xe0\x9f\xbf", "\xf0\x80\x80\x80", "\xf0\x8f\xbf\xbf", "\xf4\x90\x80\x80", "\xf8\x88\x80\x80\x80", "\xff", "\xfe", "\xc3(", "\xe2\x82", "\xed\xa0\x80"} {
		if r, n, ok := Rune(s); r != 0 || n != 0 || ok {
			t.Errorf("Rune(%q) = %x, %d", s, r, n)
		}
		if UTF8(s) != (s == "") {
			t.Errorf("UTF8(%q)", s)
		}
	}
	if r, n, ok := Rune("\uFFFD"); r != 0xfffd || n != 3 || !ok || !UTF8("\uFFFD") {
		t.Error("the code point fffd")
	}
}

func TestP26_2Check(t *testing.T) {
	good := []string{
		"a", "a/b", "a b.txt", "...", "a/...", ".a", "a.", "..a/b..", "é", "日本/語", strings.Repeat("x", 255), strings.Repeat("é", 127) + "x", "a*?[]", " ", "~", "\u0080",
	}
	for _, s := range good {
		if e := Check(s); e != api.OK {
			t.Errorf("Check(%q) = %d", s, e)
		}
	}
	bad := []string{
		"", "/", "/a", "a/", "a//b", ".", "..", "a/.", "a/..", "./a", "../a", "a/./b", "a/../b", strings.Repeat("x", 256), strings.Repeat("é", 128),
		"a:b", "a\\b", "a\nb", "a\x00", "\x1f", "a\x7fb", "\xff", "a\xc3", "\xed\xa0\x80",
	}
	for _, s := range bad {
		if e := Check(s); e != api.ErrName {
			t.Errorf("Check(%q) = %d", s, e)
		}
	}
	for b := range 256 {
		s := "a" + string(rune(b)) + "c"
		want := b >= 32 && b != 127 && b != ':' && b != '\\'
		if (Check(s) == api.OK) != want {
			t.Errorf("Check with the code point %d: %d", b, Check(s))
		}
	}
}

func TestP26_2Parts(t *testing.T) {
	cases := []struct {
		s         string
		parts     []string
		base, dir string
	}{
		{"", []string{""}, "", ""}, {"a", []string{"a"}, "a", ""}, {"a/b", []string{"a", "b"}, "b", "a"}, {"a/b/c.d", []string{"a", "b", "c.d"}, "c.d", "a/b"},
		{"/", []string{"", ""}, "", ""}, {"/a", []string{"", "a"}, "a", ""}, {"a/", []string{"a", ""}, "", "a"}, {"a//b", []string{"a", "", "b"}, "b", "a/"}, {"//", []string{"", "", ""}, "", "/"},
		{"\xff/\xfe", []string{"\xff", "\xfe"}, "\xfe", "\xff"},
	}
	for _, c := range cases {
		if p := Parts(c.s); !slices.Equal(p, c.parts) || Base(c.s) != c.base || Dir(c.s) != c.dir {
			t.Errorf("%q: %q, %q, %q", c.s, p, Base(c.s), Dir(c.s))
		}
	}
}

func TestP26_3(t *testing.T) {
	ordered := []string{"", "/", "/a", "\x01", "a", "a/", "a/b", "a/b/c", "a/z", "a ", "a.b", "a.b/c", "aa", "b", "z/y/x", "~", "é", "日"}
	for i, a := range ordered {
		for k, b := range ordered {
			if Less(a, b) != (i < k) {
				t.Errorf("Less(%q, %q) = %v", a, b, Less(a, b))
			}
		}
	}
}

func TestP26_4(t *testing.T) {
	rnd := rand.New(rand.NewSource(26))
	for range 1000 {
		var s string
		for range rnd.Intn(8) {
			s += []string{"/", "a", "b.c", "é", ""}[rnd.Intn(5)]
		}
		if strings.Contains(s, "/") {
			if Dir(s)+"/"+Base(s) != s || strings.Contains(Base(s), "/") {
				t.Errorf("%q: %q, %q", s, Dir(s), Base(s))
			}
		} else if Base(s) != s || Dir(s) != "" {
			t.Errorf("%q: %q, %q", s, Dir(s), Base(s))
		}
		if strings.Join(Parts(s), "/") != s || len(Parts(s)) != strings.Count(s, "/")+1 {
			t.Errorf("%q: %q", s, Parts(s))
		}
		if !utf8.ValidString(s) {
			t.Error("no UTF-8")
		}
	}
}

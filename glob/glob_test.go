package glob_test

import (
	"math/rand"
	"reflect"
	"slices"
	"strings"
	"testing"

	"punnet/api"
	. "punnet/glob"
)

func sign(c rune) Part { return Part{Kind: Sign, Sign: c} }

func set(not bool, pairs ...rune) Part {
	p := Part{Kind: Set, Not: not}
	for i := 0; i < len(pairs); i += 2 {
		p.Ranges = append(p.Ranges, Range{Low: pairs[i], High: pairs[i+1]})
	}
	return p
}

func TestP46_1(t *testing.T) {
	one, some, deep := Part{Kind: One}, Part{Kind: Some}, Part{Kind: Deep}
	cases := []struct {
		s    string
		want Pattern
	}{
		{"", nil}, {"a/é", Pattern{sign('a'), sign('/'), sign('é')}}, {"?*", Pattern{one, some}}, {"**", Pattern{deep}}, {"***", Pattern{deep, some}}, {"****", Pattern{deep, deep}}, {"*a**", Pattern{some, sign('a'), deep}},
		{`\*\?\[\\\a\é`, Pattern{sign('*'), sign('?'), sign('['), sign('\\'), sign('a'), sign('é')}}, {"]-!", Pattern{sign(']'), sign('-'), sign('!')}},
		{"[a]", Pattern{set(false, 'a', 'a')}}, {"[abc]d", Pattern{set(false, 'a', 'a', 'b', 'b', 'c', 'c'), sign('d')}}, {"[a-c]", Pattern{set(false, 'a', 'c')}}, {"[!a-cx]", Pattern{set(true, 'a', 'c', 'x', 'x')}},
		{"[]]", Pattern{set(false, ']', ']')}}, {"[!]]", Pattern{set(true, ']', ']')}}, {"[]a]", Pattern{set(false, ']', ']', 'a', 'a')}}, {"[a]]", Pattern{set(false, 'a', 'a'), sign(']')}}, {"[!!]", Pattern{set(true, '!', '!')}}, {"[a!]", Pattern{set(false, 'a', 'a', '!', '!')}},
		{"[a-]", Pattern{set(false, 'a', 'a', '-', '-')}}, {"[-a]", Pattern{set(false, '-', '-', 'a', 'a')}}, {"[--a]", Pattern{set(false, '-', 'a')}}, {"[---]", Pattern{set(false, '-', '-')}}, {"[a--]", nil}, {"[!--]", Pattern{set(true, '-', '-', '-', '-')}},
		{"[+--]", Pattern{set(false, '+', '-')}}, {"[a-c-e]", Pattern{set(false, 'a', 'c', '-', '-', 'e', 'e')}}, {`[\]]`, Pattern{set(false, ']', ']')}}, {`[a\]b]`, Pattern{set(false, 'a', 'a', ']', ']', 'b', 'b')}}, {`[A-\]]`, Pattern{set(false, 'A', ']')}}, {`[\a-\z]`, Pattern{set(false, 'a', 'z')}},
		{`[\!a]`, Pattern{set(false, '!', '!', 'a', 'a')}}, {`[!\!]`, Pattern{set(true, '!', '!')}}, {"[[*?/]", Pattern{set(false, '[', '[', '*', '*', '?', '?', '/', '/')}}, {"[é-日]", Pattern{set(false, 'é', '日')}}, {"[]-a]", Pattern{set(false, ']', 'a')}}, {`[\\]`, Pattern{set(false, '\\', '\\')}},
		{`[a-\-]`, nil}, {`[+-\-]`, Pattern{set(false, '+', '-')}},
	}
	for _, c := range cases {
		got, e := Parse(c.s)
		if c.want == nil && c.s != "" {
			if got != nil || e != api.ErrText {
				t.Errorf("%q: %+v, %d", c.s, got, e)
			}
			continue
		}
		if len(got) != len(c.want) || len(got) > 0 && !reflect.DeepEqual(got, c.want) || e != api.OK {
			t.Errorf("%q: %+v, %d", c.s, got, e)
		}
	}
	bad := []string{"[", "[]", "[!", "[!]", "[a", "[a-", "[a-b", "[b-a]", "[z-é", "[é-z]", `\`, `a\`, `[\`, `[a\`, `[a-\`, `[\]`, `[a-\]`, "\xff", "a\xc3", "[\xff]", "**[", "[a-b-", "[-", "[--"}
	for _, s := range bad {
		if got, e := Parse(s); got != nil || e != api.ErrText {
			t.Errorf("%q: %+v, %d", s, got, e)
		}
		if is, e := Match(s, "a"); is || e != api.ErrText {
			t.Errorf("Match(%q): %v, %d", s, is, e)
		}
		if list, e := Filter(s, []string{"a"}); list != nil || e != api.ErrText {
			t.Errorf("Filter(%q): %q, %d", s, list, e)
		}
	}
	for _, pair := range []string{"aa", "??", "*b", "[a-z][!]]", "éa", `\*\?`} {
		most := strings.Repeat(pair, 128)
		if got, e := Parse(most); len(got) != 256 || e != api.OK {
			t.Errorf("128 times %q: %d parts, %d", pair, len(got), e)
		}
		if got, e := Parse(most + "x"); got != nil || e != api.ErrText {
			t.Errorf("one part more than 128 times %q: %d parts, %d", pair, len(got), e)
		}
	}
}

func TestP46_2(t *testing.T) {
	cases := []struct {
		pattern string
		yes, no []string
	}{
		{"", []string{""}, []string{"a", "/"}}, {"abc", []string{"abc"}, []string{"", "ab", "abcd", "abC"}}, {"a/b", []string{"a/b"}, []string{"a", "ab", "a//b"}},
		{"a/*.txt", []string{"a/b.txt", "a/.txt", "a/b.c.txt"}, []string{"a/b/c.txt", "a/b.txt.x", "b/b.txt"}}, {"a/**.txt", []string{"a/b.txt", "a/b/c.txt", "a/.txt"}, []string{"a.txt", "a/b.tx"}},
		{"?", []string{"a", "é", "日"}, []string{"", "/", "ab"}}, {"*", []string{"", "a", "abc"}, []string{"/", "a/b"}}, {"**", []string{"", "a", "/", "a/b/c"}, nil}, {"*/*", []string{"/", "a/b", "a/"}, []string{"a", "a/b/c"}},
		{"[a-c]", []string{"a", "b", "c"}, []string{"", "d", "A", "ab", "/"}}, {"[!a-c]", []string{"d", "é"}, []string{"a", "b", "", "/", "dd"}}, {"[+-z]", []string{"+", "0", "z"}, []string{"/"}}, {"[/]", nil, []string{"/", "a"}}, {"[!a]", []string{"b"}, []string{"/"}},
		{"[é-日]", []string{"é", "日", "ж"}, []string{"e", "z"}}, {"*a*b*", []string{"ab", "xaxbx", "aabb", "bab"}, []string{"ba", "a/b"}}, {"**/x", []string{"/x", "a/x", "a/b/x"}, []string{"x", "a/xy"}}, {`\**`, []string{"*", "*a"}, []string{"a*"}}, {"a**b", []string{"ab", "a/b", "axyzb"}, []string{"a", "b"}},
		{"[]a]", []string{"]", "a"}, []string{"b"}}, {"***", []string{"", "a/b", "/"}, nil}, {"?**?", []string{"ab", "a/b"}, []string{"a", "/a", "a/"}},
	}
	for _, c := range cases {
		for want, list := range map[bool][]string{true: c.yes, false: c.no} {
			for _, s := range list {
				if is, e := Match(c.pattern, s); is != want || e != api.OK {
					t.Errorf("Match(%q, %q) = %v, %d", c.pattern, s, is, e)
				}
			}
		}
		names := slices.Concat(c.no, c.yes, c.no)
		if got, e := Filter(c.pattern, names); !slices.Equal(got, c.yes) || e != api.OK {
			t.Errorf("Filter(%q): %q, %d", c.pattern, got, e)
		}
	}
	for _, pattern := range []string{"**", "*", "?", "[!a]"} {
		for _, s := range []string{"\xff", "\xc3", "a\x80"} {
			if is, e := Match(pattern, s); is || e != api.OK {
				t.Errorf("Match(%q, %q) = %v, %d", pattern, s, is, e)
			}
		}
	}
}

func TestP46_2Parts(t *testing.T) {
	cases := []struct {
		l    Pattern
		s    string
		want bool
	}{
		{nil, "", true}, {nil, "a", false}, {Pattern{{Kind: 0}}, "", false}, {Pattern{{Kind: 9, Sign: 'a'}}, "a", false}, {Pattern{{Kind: -1}}, "a", false}, {Pattern{{Kind: Set}}, "a", false}, {Pattern{{Kind: Set, Not: true}}, "a", true},
		{Pattern{{Kind: Set, Not: true}}, "/", false}, {Pattern{{Kind: Sign, Sign: -1}}, "a", false}, {Pattern{{Kind: Sign, Sign: 'a', Not: true}}, "a", true}, {Pattern{set(false, 'z', 'a')}, "m", false}, {Pattern{set(false, -5, 0x7fffffff)}, "m", true},
		{Pattern{{Kind: One, Not: true}}, "a", true}, {Pattern{{Kind: Deep}, {Kind: 7}}, "a", false},
	}
	for _, c := range cases {
		if c.l.Match(c.s) != c.want {
			t.Errorf("%+v, %q", c.l, c.s)
		}
	}
	many := Pattern(slices.Repeat([]Part{{Kind: Some}, sign('a')}, 2000))
	if many.Match(strings.Repeat("a", 1999)+"b") || !many.Match(strings.Repeat("a", 3000)) {
		t.Error("many parts")
	}
}

// divides tries each division of a text among parts.
func divides(l Pattern, s []rune) bool {
	if len(l) == 0 {
		return len(s) == 0
	}
	p := l[0]
	if p.Kind == Some || p.Kind == Deep {
		for n := 0; n <= len(s); n++ {
			if n > 0 && p.Kind == Some && s[n-1] == '/' {
				break
			}
			if divides(l[1:], s[n:]) {
				return true
			}
		}
		return false
	}
	if len(s) == 0 {
		return false
	}
	within := false
	for _, r := range p.Ranges {
		within = within || s[0] >= r.Low && s[0] <= r.High
	}
	is := p.Kind == Sign && s[0] == p.Sign || p.Kind == One && s[0] != '/' || p.Kind == Set && s[0] != '/' && within != p.Not
	return is && divides(l[1:], s[1:])
}

func TestP46_2Divisions(t *testing.T) {
	rnd := rand.New(rand.NewSource(46))
	matches := 0
	for range 20000 {
		var pattern, s string
		for range rnd.Intn(7) {
			pattern += []string{"a", "b", "/", "?", "*", "**", "[ab]", "[!a]", "[a-é]"}[rnd.Intn(9)]
		}
		for range rnd.Intn(6) {
			s += []string{"a", "b", "/", "é"}[rnd.Intn(4)]
		}
		l, e := Parse(pattern)
		if e != api.OK {
			t.Fatalf("%q: %d", pattern, e)
		}
		want := divides(l, []rune(s))
		if l.Match(s) != want {
			t.Fatalf("%q, %q: not %v", pattern, s, want)
		}
		if want {
			matches++
		}
	}
	if matches < 1000 {
		t.Errorf("only %d match", matches)
	}
}

func TestP46_3(t *testing.T) {
	cases := [][2]string{{"", ""}, {"abc", "abc"}, {"*?[\\", `\*\?\[\\`}, {"a*b]c-!", `a\*b]c-!`}, {"é*", `é\*`}, {"\xff*", "\xff\\*"}}
	for _, c := range cases {
		if got := Quote(c[0]); got != c[1] {
			t.Errorf("Quote(%q) = %q", c[0], got)
		}
	}
}

func TestP46_4(t *testing.T) {
	rnd := rand.New(rand.NewSource(464))
	letters := []rune("ab*?[]\\-!/é")
	some := func(n int) string {
		s := make([]rune, rnd.Intn(n))
		for i := range s {
			s[i] = letters[rnd.Intn(len(letters))]
		}
		return string(s)
	}
	for range 5000 {
		s, other := some(6), some(6)
		if is, e := Match(Quote(s), s); !is || e != api.OK {
			t.Fatalf("%q does not match its Quote: %d", s, e)
		}
		if is, _ := Match(Quote(s), other); is != (s == other) {
			t.Fatalf("%q matches the Quote of %q", other, s)
		}
	}
	long := strings.Repeat("*", 256)
	if is, e := Match(Quote(long), long); !is || e != api.OK {
		t.Errorf("256 code points: %d", e)
	}
	if _, e := Match(Quote(long+"*"), long); e != api.ErrText {
		t.Errorf("257 code points: %d", e)
	}
}

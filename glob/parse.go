package glob

import (
	"strings"

	"punnet/name"
)

// reader reads a pattern that is UTF-8.
type reader struct {
	rest string
}

// skip takes a text that comes next; false: another one does.
func (r *reader) skip(s string) bool {
	rest, is := strings.CutPrefix(r.rest, s)
	r.rest = rest
	return is
}

// part takes the next part; false: the pattern ends within it, or it is wrong.
func (r *reader) part() (Part, bool) {
	switch {
	case r.skip("?"):
		return Part{Kind: One}, true
	case r.skip("**"):
		return Part{Kind: Deep}, true
	case r.skip("*"):
		return Part{Kind: Some}, true
	case r.skip("["):
		return r.set()
	}
	c, whole := r.sign()
	return Part{Kind: Sign, Sign: c}, whole
}

// sign takes a code point, behind a backslash if there is one; false: there is none.
func (r *reader) sign() (rune, bool) {
	r.skip(`\`)
	c, n, is := name.Rune(r.rest)
	r.rest = r.rest[n:]
	return c, is
}

// set takes what is behind the bracket of a set.
func (r *reader) set() (Part, bool) {
	p := Part{Kind: Set, Not: r.skip("!")}
	for len(p.Ranges) == 0 || !r.skip("]") {
		x, right := r.codes()
		if !right {
			return Part{}, false
		}
		p.Ranges = append(p.Ranges, x)
	}
	return p, true
}

// codes takes a range; false: the pattern ends within it, or it is the wrong way round.
func (r *reader) codes() (Range, bool) {
	low, is := r.sign()
	if !is {
		return Range{}, false
	}
	high := low
	if len(r.rest) > 1 && r.rest[0] == '-' && r.rest[1] != ']' {
		r.skip("-")
		high, is = r.sign()
	}
	return Range{Low: low, High: high}, is && low <= high
}

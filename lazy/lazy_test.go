package lazy_test

import (
	"bytes"
	"math"
	"math/rand"
	"slices"
	"strings"
	"testing"

	"punnet/api"
	"punnet/chains"
	. "punnet/lazy"
	"punnet/token"
)

var cares = []Care{
	{0, false, 0}, {4, false, 8}, {8, false, 16}, {16, false, 32}, {16, true, 16},
	{32, true, 32}, {64, true, 64}, {128, true, 128}, {512, true, 258}, {4096, true, 258},
}

func TestP16_1(t *testing.T) {
	for n, want := range cares {
		if c, ok := Level(n); c != want || !ok {
			t.Errorf("Level(%d) = %+v, %v", n, c, ok)
		}
	}
	for _, n := range []int{-1, 10, math.MinInt, math.MaxInt} {
		if c, ok := Level(n); c != (Care{}) || ok {
			t.Errorf("Level(%d) = %+v, %v", n, c, ok)
		}
	}
}

func TestP16_2Errors(t *testing.T) {
	data := []byte("abc")
	for _, c := range []struct{ from, level int }{{-1, 1}, {4, 1}, {0, -1}, {0, 10}, {math.MinInt, 0}, {math.MaxInt, 9}, {4, 0}, {0, math.MaxInt}} {
		if list, e := Tokens(data, c.from, c.level); list != nil || e != api.ErrArg {
			t.Errorf("Tokens from %d at level %d: %v, %d", c.from, c.level, list, e)
		}
	}
	for level := range 10 {
		if list, e := Tokens(data, 3, level); len(list) != 0 || e != api.OK {
			t.Errorf("Tokens from the end at level %d: %v, %d", level, list, e)
		}
		if list, e := Tokens(nil, 0, level); len(list) != 0 || e != api.OK {
			t.Errorf("Tokens of none at level %d: %v, %d", level, list, e)
		}
	}
}

func TestP16_2Examples(t *testing.T) {
	list, e := Tokens([]byte("aaaa"), 0, 1)
	if !slices.Equal(list, []token.Token{{Lit: 'a'}, {Len: 3, Dist: 1}}) || e != api.OK {
		t.Errorf("%v, %d", list, e)
	}
	list, _ = Tokens([]byte("aaaa"), 0, 0)
	if !slices.Equal(list, token.Literals([]byte("aaaa"))) {
		t.Errorf("%v", list)
	}
	// At the first b a match of three bytes waits for one of four.
	data := []byte("abcxbcdeyabcde")
	waits := []token.Token{{Lit: 'a'}, {Len: 4, Dist: 6}}
	takes := []token.Token{{Len: 3, Dist: 9}, {Lit: 'd'}, {Lit: 'e'}}
	for level := 1; level <= 9; level++ {
		want := takes
		if level >= 4 {
			want = waits
		}
		if list, _ := Tokens(data, 9, level); !slices.Equal(list, want) {
			t.Errorf("level %d: %v", level, list)
		}
	}
	// A match that is as long does not make it wait.
	if list, _ := Tokens([]byte("abcxbcdyabcd"), 8, 9); !slices.Equal(list, []token.Token{{Len: 3, Dist: 8}, {Lit: 'd'}}) {
		t.Errorf("%v", list)
	}
	// A match of Good bytes does not wait.
	b := strings.Repeat("0123456789abcdef", 1)
	long := []byte(b + "X" + b[1:] + "ghijY" + b + "ghij")
	if list, _ := Tokens(long, 37, 4); list[0] != (token.Token{Len: 16, Dist: 37}) {
		t.Errorf("%v", list)
	}
	if list, _ := Tokens(long, 37, 5); list[0] != (token.Token{Lit: '0'}) || list[1] != (token.Token{Len: 19, Dist: 21}) {
		t.Errorf("%v", list)
	}
}

// plain is what P16.2 says, with a finder that is new at each position.
func plain(data []byte, from int, care Care) []token.Token {
	match := func(at int) (int, int) {
		f := chains.New(data)
		f.Learn(at)
		return f.Longest(at, care.Depth)
	}
	var list []token.Token
	for from < len(data) {
		n, d := match(from)
		better := false
		if n >= 3 && n < care.Good && care.Wait {
			next, _ := match(from + 1)
			better = next > n
		}
		if n < 3 || better {
			list = append(list, token.Token{Lit: data[from]})
			from++
		} else {
			list = append(list, token.Token{Len: n, Dist: d})
			from += n
		}
	}
	return list
}

func TestP16_2(t *testing.T) {
	rnd := rand.New(rand.NewSource(16))
	for _, letters := range []int{1, 2, 4, 30} {
		data := make([]byte, 250)
		for i := range data {
			data[i] = byte(rnd.Intn(letters))
		}
		for level := 1; level <= 9; level++ {
			from := rnd.Intn(100)
			list, e := Tokens(data, from, level)
			if e != api.OK || !slices.Equal(list, plain(data, from, cares[level])) {
				t.Errorf("letters %d, level %d: %d", letters, level, e)
			}
		}
	}
}

func TestP16_3(t *testing.T) {
	rnd := rand.New(rand.NewSource(163))
	text := []byte(strings.Repeat("pease porridge hot, pease porridge cold, ", 2000))
	for range 500 {
		text[rnd.Intn(len(text))] = byte(rnd.Intn(256))
	}
	noise := make([]byte, 40000)
	rnd.Read(noise)
	for _, data := range [][]byte{text, noise, make([]byte, 50000)} {
		for level := range 10 {
			for _, from := range []int{0, 1, 33000, len(data)} {
				list, _ := Tokens(data, from, level)
				b, e := token.Expand(data[:from], list)
				if e != api.OK || !bytes.Equal(b, data[from:]) {
					t.Errorf("level %d from %d: %d", level, from, e)
				}
			}
		}
	}
}

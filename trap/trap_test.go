package trap_test

import (
	"errors"
	"slices"
	"testing"

	"punnet/api"
	. "punnet/trap"
)

// thrown returns what f panics with, nil if it returns.
func thrown(f func()) (p any) {
	defer func() { p = recover() }()
	f()
	return nil
}

func TestP1_1(t *testing.T) {
	for _, code := range []api.Errno{api.OK, api.ErrArg, api.ErrLine, -7, 1000} {
		if p := thrown(func() { Throw(code) }); p != (Fault{Code: code}) {
			t.Errorf("Throw(%d) panics with %v", code, p)
		}
		if p := thrown(func() { Check(false, code) }); p != (Fault{Code: code}) {
			t.Errorf("Check(false, %d) panics with %v", code, p)
		}
		if p := thrown(func() { Check(true, code) }); p != nil {
			t.Errorf("Check(true, %d) panics with %v", code, p)
		}
		var want any
		if code != api.OK {
			want = Fault{Code: code}
		}
		got := 0
		if p := thrown(func() { got = Must(7, code) }); p != want {
			t.Errorf("Must(7, %d) panics with %v", code, p)
		}
		if (code == api.OK) != (got == 7) {
			t.Errorf("Must(7, %d) = %d", code, got)
		}
	}
	if got := Must("text", api.OK); got != "text" {
		t.Errorf("Must of a text: %q", got)
	}
}

func TestP1_2Catch(t *testing.T) {
	if e := Catch(func() { Throw(api.ErrFull) }); e != 3 {
		t.Errorf("Catch: %d", e)
	}
	if e := Catch(func() {}); e != api.OK {
		t.Errorf("Catch of a function that returns: %d", e)
	}
	if e := Catch(func() { Throw(api.OK) }); e != api.OK {
		t.Errorf("Catch of the code 0: %d", e)
	}
	other := errors.New("other")
	if p := thrown(func() { Catch(func() { panic(other) }) }); p != other {
		t.Errorf("another panic became %v", p)
	}
	if p := thrown(func() { Catch(func() { panic(api.ErrFull) }) }); p != api.ErrFull {
		t.Errorf("a panic with a code alone became %v", p)
	}
	if p := thrown(func() { Catch(func() { panic(&Fault{Code: api.ErrFull}) }) }); p == nil {
		t.Error("a panic with a pointer was caught")
	}
	inner, after := api.OK, false
	outer := Catch(func() {
		inner = Catch(func() { Throw(api.ErrName) })
		after = true
	})
	if inner != api.ErrName || outer != api.OK || !after {
		t.Errorf("nested: %d, %d, %v", inner, outer, after)
	}
}

func TestP1_2Try(t *testing.T) {
	if v, e := Try(func() string { return "v" }); v != "v" || e != api.OK {
		t.Errorf("Try: %q, %d", v, e)
	}
	v, e := Try(func() string {
		Throw(api.ErrCRC)
		return "v"
	})
	if v != "" || e != api.ErrCRC {
		t.Errorf("Try: %q, %d", v, e)
	}
	n, e := Try(func() int { return Must(5, api.ErrName) })
	if n != 0 || e != api.ErrName {
		t.Errorf("Try: %d, %d", n, e)
	}
	if p := thrown(func() { Try(func() int { panic("other") }) }); p != "other" {
		t.Errorf("another panic became %v", p)
	}
}

func TestP1_3First(t *testing.T) {
	var calls []int
	say := func(i int, e api.Errno) func() api.Errno {
		return func() api.Errno {
			calls = append(calls, i)
			return e
		}
	}
	throw := func() api.Errno {
		Throw(api.ErrCRC)
		return api.OK
	}
	throwOK := func() api.Errno {
		Throw(api.OK)
		return api.ErrArg
	}
	cases := []struct {
		list  []func() api.Errno
		i     int
		e     api.Errno
		calls []int
	}{
		{nil, 0, api.OK, nil},
		{[]func() api.Errno{say(0, api.OK), say(1, api.OK)}, 2, api.OK, []int{0, 1}},
		{[]func() api.Errno{say(0, api.OK), say(1, api.ErrDist), say(2, api.ErrArg)}, 1, api.ErrDist, []int{0, 1}},
		{[]func() api.Errno{say(0, api.OK), throw, say(2, api.ErrArg)}, 1, api.ErrCRC, []int{0}},
		{[]func() api.Errno{throwOK, say(1, api.ErrTime)}, 1, api.ErrTime, []int{1}},
	}
	for k, c := range cases {
		calls = nil
		i, e := First(c.list...)
		if i != c.i || e != c.e || !slices.Equal(calls, c.calls) {
			t.Errorf("case %d: %d, %d, %v", k, i, e, calls)
		}
	}
	if p := thrown(func() { First(func() api.Errno { panic("other") }) }); p != "other" {
		t.Errorf("another panic became %v", p)
	}
}

func TestP1_3Always(t *testing.T) {
	var order []string
	first := func() { order = append(order, "first") }
	behind := func() { order = append(order, "behind") }
	Always(first, behind)
	if !slices.Equal(order, []string{"first", "behind"}) {
		t.Errorf("order: %v", order)
	}
	for _, p := range []any{Fault{Code: api.ErrBusy}, "other"} {
		order = nil
		got := thrown(func() {
			Always(func() {
				first()
				panic(p)
			}, behind)
		})
		if got != p || !slices.Equal(order, []string{"first", "behind"}) {
			t.Errorf("panic %v, order %v", got, order)
		}
		got = thrown(func() { Always(func() { panic(p) }, func() { recover() }) })
		if got != p {
			t.Errorf("behind ended the panic of f: %v", got)
		}
	}
	if e := Catch(func() { Always(func() {}, func() { Throw(api.ErrLack) }) }); e != api.ErrLack {
		t.Errorf("what behind throws: %d", e)
	}
}

func TestP1_4(t *testing.T) {
	after := 0
	var deep func(n int)
	deep = func(n int) {
		if n == 0 {
			Throw(api.ErrTail)
		}
		deep(n - 1)
		after++
	}
	if e := Catch(func() { deep(1000) }); e != api.ErrTail || after != 0 {
		t.Errorf("deep: %d, %d", e, after)
	}
}

// P1: calls that don't throw don't panic either, not even without a function.
func TestP1NoFunction(t *testing.T) {
	if e := Catch(nil); e != api.OK {
		t.Errorf("Catch(nil) = %d", e)
	}
	if v, e := Try[int](nil); v != 0 || e != api.OK {
		t.Errorf("Try(nil) = %d, %d", v, e)
	}
	if i, e := First(nil, nil); i != 2 || e != api.OK {
		t.Errorf("First(nil, nil) = %d, %d", i, e)
	}
	called := false
	Always(nil, func() { called = true })
	Always(func() {}, nil)
	if !called {
		t.Error("Always(nil, f) does not call f")
	}
}

// Package trap is layer 1: panics with error codes.
package trap

import (
	"punnet/api"
)

// Fault is what Throw panics with.
type Fault struct {
	Code api.Errno
}

// Throw panics with the Fault of a code.
func Throw(code api.Errno) {
	panic(Fault{Code: code})
}

// Check throws a code unless something is so.
func Check(is bool, code api.Errno) {
	if !is {
		Throw(code)
	}
}

// Must returns a value, or throws the error that came with it.
func Must[T any](v T, e api.Errno) T {
	Check(e == api.OK, e)
	return v
}

// Catch returns the code that f throws; other panics continue.
func Catch(f func()) (code api.Errno) {
	defer func() {
		if p := recover(); p != nil {
			fault, is := p.(Fault)
			if !is {
				panic(p)
			}
			code = fault.Code
		}
	}()
	call(f)
	return api.OK
}

// Try returns what f returns, or the code that it throws.
func Try[T any](f func() T) (T, api.Errno) {
	var v, zero T
	threw := true
	code := Catch(func() {
		if f != nil {
			v = f()
		}
		threw = false
	})
	if threw {
		return zero, code
	}
	return v, api.OK
}

// First returns the index and the code of the first function that has an error.
func First(list ...func() api.Errno) (int, api.Errno) {
	for i, f := range list {
		returned, threw := Try(f)
		if threw != api.OK {
			return i, threw
		}
		if returned != api.OK {
			return i, returned
		}
	}
	return len(list), api.OK
}

// Always calls behind after f, even if f panics.
func Always(f, behind func()) {
	// Within a function of its own, behind can't recover the panic of f by accident.
	defer func() {
		call(behind)
	}()
	call(f)
}

// call takes a function that is missing as one that does nothing, so that no other panic arises from it.
func call(f func()) {
	if f != nil {
		f()
	}
}

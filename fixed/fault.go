package fixed

import "besom/api"

// fault is what a computation panics with; attempt makes it the error of a call.
type fault api.Errno

// attempt returns what do returns, or the zero value and the error with which do stopped.
func attempt[T any](do func() T) (out T, e api.Errno) {
	defer func() {
		if p := recover(); p != nil {
			e = cause(p)
		}
	}()
	return do(), api.OK
}

// cause returns the error of a panic.
func cause(p any) api.Errno {
	if f, ok := p.(fault); ok {
		return api.Errno(f)
	}
	return api.ErrArg
}

// need stops with ErrArg unless all numbers are valid.
func need(numbers ...api.Fix) {
	for _, n := range numbers {
		if Check(n) != api.OK {
			panic(fault(api.ErrArg))
		}
	}
}

// fitting returns a result, or stops with ErrRange if it does not fit.
func fitting(n api.Fix) api.Fix {
	if Check(n) != api.OK {
		panic(fault(api.ErrRange))
	}
	return n
}

package contact

import "besom/api"

// fault is what a reckoning panics with; attempt makes it the error of a call.
type fault api.Errno

// attempt returns what do returns, or the zero value and the error with which do stopped.
func attempt[T any](do func() T) (out T, e api.Errno) {
	defer func() {
		if p := recover(); p != nil {
			e = cause(p)
		}
	}()
	return do(), api.OK
}

// cause returns the error of a panic.
func cause(p any) api.Errno {
	if f, ok := p.(fault); ok {
		return api.Errno(f)
	}
	return api.ErrArg
}

// need stops with ErrArg unless what is asked for holds.
func need(holds bool) {
	if !holds {
		panic(fault(api.ErrArg))
	}
}

// must returns the result of a call of a lower layer, or stops with its error.
func must[T any](out T, e api.Errno) T {
	if e != api.OK {
		panic(fault(e))
	}
	return out
}

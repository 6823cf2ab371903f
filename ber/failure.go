package ber

import "palatine/api"

// failure is what this package panics with: an error on its way out of calls within calls.
type failure struct{ e api.Errno }

// must fails with an error unless something is so.
func must(so bool, e api.Errno) {
	if !so {
		panic(failure{e})
	}
}

// caught does something, and returns the error that it failed with. A panic of another kind would be a fault of this package, and isn't hidden.
func caught(do func()) (e api.Errno) {
	defer func() {
		switch p := recover().(type) {
		case nil:
		case failure:
			e = p.e
		default:
			panic(p)
		}
	}()
	do()
	return api.OK
}

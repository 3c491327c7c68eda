package parts

import (
	"slackwater/api"
	"slackwater/gauss"
	floats "slackwater/real" // by another name: its own one would hide the language's real
)

// Nearest tells the nearest number of a complex fraction, part by part; ErrOver, if a part has none.
func Nearest(a api.Gauss) (complex128, api.Errno) {
	if e := gauss.Check(a); e != api.OK {
		return 0, e
	}
	re, e := floats.Nearest(a.Re)
	if e != api.OK {
		return 0, e
	}
	im, e := floats.Nearest(a.Im)
	if e != api.OK {
		return 0, e
	}
	return complex(re, im), api.OK
}

// Exact tells the complex fraction that a number is; ErrNumber, if it is not finite.
func Exact(z complex128) (api.Gauss, api.Errno) {
	re, e := floats.Exact(real(z))
	if e != api.OK {
		return api.Gauss{}, e
	}
	im, e := floats.Exact(imag(z))
	if e != api.OK {
		return api.Gauss{}, e
	}
	return api.Gauss{Re: re, Im: im}, api.OK
}

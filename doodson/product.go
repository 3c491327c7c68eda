package doodson

import "slackwater/api"

// Times tells the numbers of a product: those of both together.
func Times(a, b api.Doodson) (api.Doodson, api.Errno) {
	return joined(a, b, 1)
}

// Over tells the numbers of a quotient: those of a less those of b.
func Over(a, b api.Doodson) (api.Doodson, api.Errno) {
	return joined(a, b, -1)
}

// Conj tells the numbers of the conjugate: 0 less each.
func Conj(n api.Doodson) (api.Doodson, api.Errno) {
	return joined(api.Doodson{}, n, -1)
}

// joined tells a and sign times b, number by number. Both are checked ahead, so no sum wraps round an int8.
func joined(a, b api.Doodson, sign int8) (api.Doodson, api.Errno) {
	if e := Check(a); e != api.OK {
		return api.Doodson{}, e
	}
	if e := Check(b); e != api.OK {
		return api.Doodson{}, e
	}
	for k, x := range b {
		a[k] += sign * x
	}
	if e := Check(a); e != api.OK {
		return api.Doodson{}, e
	}
	return a, api.OK
}

// Species tells how often a day a constituent comes, about: its first number's size.
func Species(n api.Doodson) (int, api.Errno) {
	if e := Check(n); e != api.OK {
		return 0, e
	}
	first := int(n[0])
	if first < 0 {
		first = -first
	}
	return first, api.OK
}

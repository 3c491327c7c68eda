package rotor

import (
	"slackwater/api"
	"slackwater/gauss"
)

// Find tells the rotor whose number g is, if there is one.
func Find(g api.Gauss) (api.Rotor, bool) {
	r, ok := candidate(g)
	if !ok {
		return api.Rotor{}, false
	}
	// Only what is in its one form is the same as a number that was made here.
	number, e := Of(r)
	if e != api.OK || !gauss.Same(number, g) {
		return api.Rotor{}, false
	}
	return r, true
}

// candidate tells the only rotor that g could be the number of: half of g's angle is that of 1 and g together, so Near over Far is Im over 1 and Re.
func candidate(g api.Gauss) (api.Rotor, bool) {
	// A rotor's number has no part that is 0, and neither a Num nor a Den above 2,000,000.
	for _, words := range [][]uint32{g.Re.Num, g.Re.Den, g.Im.Num, g.Im.Den} {
		if len(words) != 1 {
			return api.Rotor{}, false
		}
	}
	// Both parts of a rotor's number have one Den.
	far := int64(g.Re.Den[0]) + signed(g.Re)
	near := signed(g.Im)
	if far < 1 || near == 0 {
		return api.Rotor{}, false
	}
	common := commonDivisor(far, size(near))
	far, near = far/common, near/common
	if far > greatest || size(near) > greatest {
		return api.Rotor{}, false
	}
	return api.Rotor{Far: int32(far), Near: int32(near)}, true
}

// signed tells the Num of one word with its sign.
func signed(a api.Ratio) int64 {
	n := int64(a.Num[0])
	if a.Neg {
		return -n
	}
	return n
}

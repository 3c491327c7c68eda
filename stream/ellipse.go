package stream

import (
	"slackwater/api"
	"slackwater/parts"
	"slackwater/rotor"
	"slackwater/tide"
)

// Ellipse tells the axes of two constituents whose rotors are each other's conjugates; ErrPair, if they are not.
func Ellipse(s, t api.Tide) (api.Ellipse, api.Errno) {
	if e := lookAtPair(s, t); e != api.OK {
		return api.Ellipse{}, e
	}
	one, e := parts.Nearest(s.Number)
	if e != api.OK {
		return api.Ellipse{}, e
	}
	other, e := parts.Nearest(t.Number)
	if e != api.OK {
		return api.Ellipse{}, e
	}
	greater, lesser := axes(one, other)
	if !parts.Finite(complex(greater, lesser)) {
		return api.Ellipse{}, api.ErrOver
	}
	return api.Ellipse{Greater: greater, Lesser: lesser}, api.OK
}

// lookAtPair looks at two constituents, then at whether they are a pair.
func lookAtPair(s, t api.Tide) api.Errno {
	if e := tide.Check(s); e != api.OK {
		return e
	}
	if e := tide.Check(t); e != api.OK {
		return e
	}
	// Conj refuses no rotor of a constituent that may be.
	if other, _ := rotor.Conj(s.Rotor); other != t.Rotor {
		return api.ErrPair
	}
	return api.OK
}

// axes makes both axes of two numbers that go round either way.
func axes(one, other complex128) (greater, lesser float64) {
	a, b := parts.Abs(one), parts.Abs(other)
	greater, lesser = a+b, a-b
	return greater, lesser
}

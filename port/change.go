package port

import (
	"slices"

	"slackwater/api"
	"slackwater/gauss"
	"slackwater/rotor"
	"slackwater/tide"
)

// Conj tells the port with each constituent's conjugate rotor and number, under the same names.
func Conj(p api.Port) (api.Port, api.Errno) {
	if f := Check(p); f.Err != api.OK {
		return api.Port{}, f.Err
	}
	return changed(p, tide.Conj)
}

// Moved tells the port at whose tick 0 stands what stood at t.
func Moved(p api.Port, t int) (api.Port, api.Errno) {
	if f := Check(p); f.Err != api.OK {
		return api.Port{}, f.Err
	}
	// Looked at here, as a port without constituents asks for no power that would refuse it.
	if t < -api.MaxPower || t > api.MaxPower {
		return api.Port{}, api.ErrArg
	}
	return changed(p, func(c api.Tide) (api.Tide, api.Errno) { return moved(c, t) })
}

// moved makes the constituent whose number at the tick 0 is c's at t.
func moved(c api.Tide, t int) (api.Tide, api.Errno) {
	w, e := rotor.Power(c.Rotor, t)
	if e != api.OK {
		return api.Tide{}, e
	}
	n, e := gauss.Mul(c.Number, w)
	if e != api.OK {
		return api.Tide{}, e
	}
	return api.Tide{Name: c.Name, Rotor: c.Rotor, Number: n}, api.OK
}

// changed makes the port with each constituent as change makes it; the first error ends it.
func changed(p api.Port, change func(api.Tide) (api.Tide, api.Errno)) (api.Port, api.Errno) {
	made := api.Port{Name: p.Name, Mean: copiedRatio(p.Mean)}
	for _, t := range p.Tides {
		other, e := change(t)
		if e != api.OK {
			return api.Port{}, e
		}
		made.Tides = append(made.Tides, other)
	}
	return made, api.OK
}

// Real tells whether to each constituent there is the one with the conjugate rotor and number.
func Real(p api.Port) (bool, api.Errno) {
	mirror, e := Conj(p)
	if e != api.OK {
		return false, e
	}
	for _, t := range mirror.Tides {
		// No rotor is its own conjugate, so the one that is found is another one.
		if !slices.ContainsFunc(p.Tides, func(u api.Tide) bool { return sameButName(t, u) }) {
			return false, api.OK
		}
	}
	return true, api.OK
}

// sameButName tells whether two have the same rotor and number.
func sameButName(a, b api.Tide) bool {
	a.Name = b.Name
	return tide.Same(a, b)
}

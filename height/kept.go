package height

import (
	"math"

	"slackwater/api"
	"slackwater/parts"
	floats "slackwater/real" // by another name: its own one would hide the language's real
	"slackwater/rotor"
)

// kept is what is the same at each tick of a near port.
type kept struct {
	mean  float64
	bound float64
	tides []going
}

// going is what is kept of a constituent: only its rotor's power goes on from tick to tick.
type going struct {
	z     complex128
	rotor api.Rotor
}

// keep works out what is kept of a port that may be; ErrOver, if it is not near.
func keep(p api.Port) (kept, api.Errno) {
	if !isNear(p.Mean) {
		return kept{}, api.ErrOver
	}
	// What is near has a nearest float, so no call below refuses.
	var k kept
	k.mean, _ = floats.Nearest(p.Mean)
	for _, c := range p.Tides {
		if !isNear(c.Number.Re) || !isNear(c.Number.Im) {
			return kept{}, api.ErrOver
		}
		z, _ := parts.Nearest(c.Number)
		k.tides = append(k.tides, going{z: z, rotor: c.Rotor})
	}
	k.bound = boundOf(k.mean, k.tides)
	return k, api.OK
}

// isNear tells whether a fraction is 0 or has a size from 2^-500 to 2^500. Its nearest float would not do: that of a fraction just beyond is one of these ends.
func isNear(r api.Ratio) bool {
	if len(r.Num) == 0 {
		return true
	}
	r.Neg = false
	low, _ := floats.Compare(0x1p-500, r)
	high, _ := floats.Compare(0x1p500, r)
	return low <= 0 && high >= 0
}

// boundOf tells how far heights may be off; each step is held in a conversion, so that none are joined.
func boundOf(mean float64, tides []going) float64 {
	s := 0.0
	for _, c := range tides {
		s = float64(s + math.Abs(real(c.z)))
		s = float64(s + math.Abs(imag(c.z)))
	}
	s = float64(s + math.Abs(mean))
	s = float64(s * float64(len(tides)+4))
	bound, _ := floats.Next(float64(s * 0x1p-50))
	return bound
}

// at tells the height at a tick that there is.
func (k kept) at(t int) api.Off {
	height := k.mean
	for _, c := range k.tides {
		height = float64(height + real(c.at(t)))
	}
	return api.Off{Height: height, Bound: k.bound}
}

// sum tells the sum of all numbers there.
func (k kept) sum(t int) complex128 {
	var sum complex128
	for _, c := range k.tides {
		sum = parts.Add(sum, c.at(t))
	}
	return sum
}

// at tells a constituent's number at a tick that there is, at which neither call refuses.
func (c going) at(t int) complex128 {
	power, _ := rotor.Power(c.rotor, t)
	w, _ := parts.Nearest(power)
	return parts.Mul(c.z, w)
}

package normal

import (
	"slackwater/api"
	"slackwater/gauss"
	"slackwater/rotor"
)

// piece is a complex fraction in two whole pieces, top over under, not always in lowest terms: so no long common divisor is sought on the way.
//
// Nothing that this file makes is refused: what stands below a rotor's number is at most 1,998,001, so what stands below two rotors' powers up to 1,024 together has at most 1,340 words, and so has each product of their tops, and each sum of 256 of these.
type piece struct {
	top, under api.Gauss
}

// powerOf is a rotor's power in two pieces.
func powerOf(u api.Rotor, t int) piece {
	power, _ := rotor.Power(u, t)
	// Both parts have one Den, as their squares come to 1.
	under := power.Re.Den
	return piece{
		top:   api.Gauss{Re: whole(power.Re.Neg, power.Re.Num), Im: whole(power.Im.Neg, power.Im.Num)},
		under: api.Gauss{Re: whole(false, under), Im: whole(false, nil)},
	}
}

// whole is the fraction of a whole number.
func whole(neg bool, words []uint32) api.Ratio {
	return api.Ratio{Neg: neg, Num: words, Den: []uint32{1}}
}

// times makes the product of two.
func (p piece) times(q piece) piece {
	return piece{top: product(p.top, q.top), under: product(p.under, q.under)}
}

// number makes the complex fraction in its one form.
func (p piece) number() api.Gauss {
	n, _ := gauss.Scale(api.Ratio{Num: []uint32{1}, Den: p.under.Re.Num}, p.top)
	return n
}

func product(a, b api.Gauss) api.Gauss {
	p, _ := gauss.Mul(a, b)
	return p
}

// powers tells, at rising ticks, a number's power and by what it has gone on from the tick ahead: it holds the last power. What the number comes to after so many ticks is told by after.
func powers(after func(ticks int) piece) func(t int) (power, step piece) {
	last, at := piece{top: gauss.Int(1, 0), under: gauss.Int(1, 0)}, 0
	return func(t int) (power, step piece) {
		step = after(t - at)
		last, at = last.times(step), t
		return last, step
	}
}

// powersOf tells a rotor's powers at rising ticks.
func powersOf(u api.Rotor) func(t int) api.Gauss {
	next := powers(func(ticks int) piece { return powerOf(u, ticks) })
	return func(t int) api.Gauss {
		power, _ := next(t)
		return power.number()
	}
}

// conjugate is the rotor whose powers are the conjugates of this one's.
func conjugate(u api.Rotor) api.Rotor {
	c, _ := rotor.Conj(u)
	return c
}

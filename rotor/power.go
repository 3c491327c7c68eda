package rotor

import (
	"iter"

	"slackwater/api"
	"slackwater/gauss"
)

// power is a rotor's power in two pieces that are whole: top over under, in lowest terms. So no common divisor is looked for on the way.
type power struct {
	top, under api.Gauss
}

// one is the power 0.
func one() power { return power{top: gauss.Int(1, 0), under: gauss.Int(1, 0)} }

// first is the power 1 of a rotor that may be.
func first(r api.Rotor) power {
	far, near := int64(r.Far), int64(r.Near)
	re, im, norm := far*far-near*near, 2*far*near, far*far+near*near
	// Only 2 may stand in all three, once, where Far and Near are both odd. What is left of norm is odd, and each of its complex primes divides either Far + i Near or the conjugate, not both: so none divides a part of a power of the top, and each power is in lowest terms.
	if norm%2 == 0 {
		re, im, norm = re/2, im/2, norm/2
	}
	return power{top: gauss.Int(re, im), under: gauss.Int(norm, 0)}
}

// times makes the product of two powers of one rotor. It is never refused: norm is at most 2,000,000, so a power up to 1,024 has less than 700 words.
func (p power) times(q power) power {
	top, _ := gauss.Mul(p.top, q.top)
	under, _ := gauss.Mul(p.under, q.under)
	return power{top: top, under: under}
}

// to makes the power t, by squaring.
func (p power) to(t int) power {
	made := one()
	for ; t > 0; t >>= 1 {
		if t&1 == 1 {
			made = made.times(p)
		}
		if t > 1 {
			p = p.times(p)
		}
	}
	return made
}

// number makes the complex fraction, in memory of its own.
func (p power) number() api.Gauss {
	return api.Gauss{Re: over(p.top.Re, p.under.Re), Im: over(p.top.Im, p.under.Re)}
}

// over makes the fraction of two whole ones.
func over(top, under api.Ratio) api.Ratio {
	return api.Ratio{Neg: top.Neg, Num: copied(top.Num), Den: copied(under.Num)}
}

func copied(words []uint32) []uint32 { return append([]uint32(nil), words...) }

// Power tells a rotor's number to the power t; of a t below 0 that of the conjugate to -t.
func Power(r api.Rotor, t int) (api.Gauss, api.Errno) {
	if e := Check(r); e != api.OK {
		return api.Gauss{}, e
	}
	if t < -api.MaxPower || t > api.MaxPower {
		return api.Gauss{}, api.ErrArg
	}
	if t < 0 {
		r.Near, t = -r.Near, -t
	}
	return first(r).to(t).number(), api.OK
}

// Steps goes over the powers from 0 to 1,024, each made of the one ahead of it; over nothing, if the rotor may not be.
func Steps(r api.Rotor) iter.Seq2[int, api.Gauss] {
	if Check(r) != api.OK {
		return func(func(int, api.Gauss) bool) {}
	}
	return func(yield func(int, api.Gauss) bool) {
		// What is yielded is a copy, so that whoever ranges may write over it.
		kept, step := one(), first(r)
		for t := 0; yield(t, kept.number()) && t < api.MaxPower; t++ {
			kept = kept.times(step)
		}
	}
}

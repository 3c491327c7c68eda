package shallow

import (
	"slackwater/api"
	"slackwater/gauss"
)

// At tells the number at a tick: the sum of all rounds' numbers there.
func At(l []api.Round, t int) (api.Gauss, api.Fault) {
	if f := Check(l); f.Err != api.OK {
		return api.Gauss{}, f
	}
	if t < 0 || t > api.MaxPower {
		return api.Gauss{}, api.Fault{Err: api.ErrArg, At: -1}
	}
	sum := gauss.Int(0, 0)
	for i, r := range l {
		var e api.Errno
		if sum, e = plusNumber(sum, r, t); e != api.OK {
			return api.Gauss{}, api.Fault{Err: e, At: i}
		}
	}
	return sum, api.Fault{}
}

// plusNumber adds a round's number at t to a sum.
func plusNumber(sum api.Gauss, r api.Round, t int) (api.Gauss, api.Errno) {
	unit, e := power(r.Unit, t)
	if e != api.OK {
		return api.Gauss{}, e
	}
	number, e := gauss.Mul(unit, r.Number)
	if e != api.OK {
		return api.Gauss{}, e
	}
	return gauss.Add(sum, number)
}

// power makes a Unit to the power t, by squaring. No square is made that goes into nothing: it might be too long.
func power(unit api.Gauss, t int) (api.Gauss, api.Errno) {
	made, h, e := gauss.Int(1, 0), unit, api.OK
	for t > 0 {
		if t%2 == 1 {
			if made, e = gauss.Mul(made, h); e != api.OK {
				return api.Gauss{}, e
			}
		}
		if t /= 2; t == 0 {
			break
		}
		if h, e = gauss.Mul(h, h); e != api.OK {
			return api.Gauss{}, e
		}
	}
	return made, api.OK
}

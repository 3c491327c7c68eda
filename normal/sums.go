package normal

import (
	"slackwater/api"
	"slackwater/gauss"
	"slackwater/ratio"
)

// sumOfPowers makes the sum over the ticks of the conjugate of u's power times v's power. Both go on together, as the powers of one number, and are added over what stands below at the last tick.
func sumOfPowers(ticks []int, u, v api.Rotor) api.Gauss {
	c := conjugate(u)
	next := powers(func(ticks int) piece { return powerOf(c, ticks).times(powerOf(v, ticks)) })
	sum := piece{top: gauss.Int(0, 0), under: gauss.Int(1, 0)}
	for _, t := range ticks {
		power, step := next(t)
		widened := product(sum.top, step.under)
		sum.top, _ = gauss.Add(widened, power.top)
		sum.under = power.under
	}
	return sum.number()
}

// sumOfHeights makes the sum over the ticks of the conjugate of u's power times the height.
func sumOfHeights(ticks []int, heights []api.Gauss, u api.Rotor) (api.Gauss, api.Errno) {
	power := powersOf(conjugate(u))
	sum := gauss.Int(0, 0)
	for i, t := range ticks {
		term, e := gauss.Mul(power(t), heights[i])
		if e != api.OK {
			return api.Gauss{}, e
		}
		if sum, e = gauss.Add(sum, term); e != api.OK {
			return api.Gauss{}, e
		}
	}
	return sum, api.OK
}

// sumOfRests makes the sum over the ticks of the Norm of what stays of the height.
func sumOfRests(ticks []int, heights []api.Gauss, rotors []api.Rotor, numbers []api.Gauss) (api.Ratio, api.Errno) {
	rest := rests(rotors, numbers)
	sum := gauss.Int(0, 0).Re
	for i, t := range ticks {
		stays, e := rest(t, heights[i])
		if e != api.OK {
			return api.Ratio{}, e
		}
		norm, e := gauss.Norm(stays)
		if e != api.OK {
			return api.Ratio{}, e
		}
		if sum, e = ratio.Add(sum, norm); e != api.OK {
			return api.Ratio{}, e
		}
	}
	return sum, api.OK
}

// rests tells what stays of heights at rising ticks: each rotor's number times its power is taken off, in order.
func rests(rotors []api.Rotor, numbers []api.Gauss) func(t int, height api.Gauss) (api.Gauss, api.Errno) {
	var on []func(t int) api.Gauss
	for _, u := range rotors {
		on = append(on, powersOf(u))
	}
	return func(t int, rest api.Gauss) (api.Gauss, api.Errno) {
		for k, power := range on {
			term, e := gauss.Mul(numbers[k], power(t))
			if e != api.OK {
				return api.Gauss{}, e
			}
			if rest, e = gauss.Sub(rest, term); e != api.OK {
				return api.Gauss{}, e
			}
		}
		return rest, api.OK
	}
}

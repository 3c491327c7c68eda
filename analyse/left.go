package analyse

import (
	"slackwater/api"
	"slackwater/gauss"
	"slackwater/normal"
	"slackwater/ratio"
	"slackwater/rotor"
	"slackwater/tide"
)

// Left tells the rests: what the constituents leave of each height.
func Left(ticks []int, heights []api.Gauss, tides []api.Tide) ([]api.Gauss, api.Errno) {
	if e := check(ticks, heights, tides); e != api.OK {
		return nil, e
	}
	rests := make([]api.Gauss, len(ticks))
	for i, t := range ticks {
		var e api.Errno
		if rests[i], e = rest(heights[i], tides, t); e != api.OK {
			return nil, e
		}
	}
	return rests, api.OK
}

// Misfit tells the squares of the rests' sizes, all together.
func Misfit(ticks []int, heights []api.Gauss, tides []api.Tide) (api.Ratio, api.Errno) {
	rests, e := Left(ticks, heights, tides)
	if e != api.OK {
		return api.Ratio{}, e
	}
	sum := nought().Re
	for _, a := range rests {
		norm, e := gauss.Norm(a)
		if e != api.OK {
			return api.Ratio{}, e
		}
		if sum, e = ratio.Add(sum, norm); e != api.OK {
			return api.Ratio{}, e
		}
	}
	return sum, api.OK
}

// check tells what is wrong with ticks, heights at these, and constituents: how many there are is looked at ahead of what they are.
func check(ticks []int, heights []api.Gauss, tides []api.Tide) api.Errno {
	if f := normal.Ticks(ticks); f.Err != api.OK {
		return f.Err
	}
	if len(tides) > api.MaxRotors {
		return api.ErrLong
	}
	if len(heights) != len(ticks) {
		return api.ErrArg
	}
	for _, a := range heights {
		if e := gauss.Check(a); e != api.OK {
			return e
		}
	}
	for _, c := range tides {
		if e := tide.Check(c); e != api.OK {
			return e
		}
	}
	return api.OK
}

// rest makes what constituents leave of a height at a tick.
func rest(height api.Gauss, tides []api.Tide, t int) (api.Gauss, api.Errno) {
	// A height of which nothing is taken off is told in new memory, too.
	left := copied(height)
	for _, c := range tides {
		n, e := numberAt(c, t)
		if e != api.OK {
			return api.Gauss{}, e
		}
		if left, e = gauss.Sub(left, n); e != api.OK {
			return api.Gauss{}, e
		}
	}
	return left, api.OK
}

// numberAt makes a constituent's number at a tick.
func numberAt(c api.Tide, t int) (api.Gauss, api.Errno) {
	// Neither the rotor nor the tick is one that is refused: both were looked at.
	power, _ := rotor.Power(c.Rotor, t)
	return gauss.Mul(c.Number, power)
}

// copied makes the same number in memory of its own.
func copied(a api.Gauss) api.Gauss {
	return tide.Copy(api.Tide{Number: a}).Number
}

func nought() api.Gauss { return gauss.Int(0, 0) }

package real

import (
	"math"

	"slackwater/api"
)

// Next tells the least float above x; ErrOver, if x is the greatest one. Of sizes the bits go in the same order as the floats, one by one.
func Next(x float64) (float64, api.Errno) {
	switch {
	case !finite(x):
		return 0, api.ErrNumber
	case x == math.MaxFloat64:
		return 0, api.ErrOver
	case x < 0:
		// Taken off 0, not turned round: behind the last one below 0 stands +0.
		return 0 - math.Float64frombits(math.Float64bits(-x)-1), api.OK
	}
	return math.Float64frombits(math.Float64bits(math.Abs(x)) + 1), api.OK
}

// Gap tells how far it is from the size of x to the next float above.
func Gap(x float64) (float64, api.Errno) {
	if !finite(x) {
		return 0, api.ErrNumber
	}
	return math.Ldexp(1, takeApart(x).unit), api.OK
}

package real

import "slackwater/api"

// TwoSum tells a sum, and what was lost by rounding it; ErrOver, if either is not finite.
func TwoSum(a, b float64) (float64, float64, api.Errno) {
	if !finite(a) || !finite(b) {
		return 0, 0, api.ErrNumber
	}
	s, e := twoSum(a, b)
	if !finite(s) || !finite(e) {
		return 0, 0, api.ErrOver
	}
	return s, e, api.OK
}

// Sum tells a sum of many, in their order, and what was lost, added likewise. All are looked at ahead of the first sum.
func Sum(l []float64) (float64, float64, api.Fault) {
	for i, x := range l {
		if !finite(x) {
			return 0, 0, api.Fault{Err: api.ErrNumber, At: i}
		}
	}
	var s, c float64
	for i, x := range l {
		var e float64
		s, e = twoSum(s, x)
		c = float64(c + e)
		if !finite(s) || !finite(c) {
			return 0, 0, api.Fault{Err: api.ErrOver, At: i}
		}
	}
	return s, c, api.Fault{}
}

// twoSum goes step by step, each rounded by itself: what is not finite at one makes the error so, too.
func twoSum(a, b float64) (s, e float64) {
	s = float64(a + b)
	t := float64(s - a)
	d := float64(s - t)
	e = float64(float64(a-d) + float64(b-t))
	return s, e
}

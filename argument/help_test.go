package argument_test

import (
	"math"

	"slackwater/api"
)

const (
	top    = api.MaxTick
	circle = 3600000000
)

// an angle as the document's table has it.
type angle struct {
	name        string
	first, step int64
}

func angles() []angle {
	return []angle{{"lunar", 31648000, 144920521}, {"moon", 2770247000, 5490165}, {"sun", 2801895000, 410686}, {"perigee", 3343853000, 46418}, {"node", 1008432000, 22064}, {"perihelion", 2812209000, 20}}
}

// noAngles are numbers of no angle.
func noAngles() []int {
	return []int{-1, -2, -6, 6, 7, 12, 256, 1 << 31, 1 << 32, 1<<32 + 2, 1 << 62, -1 << 32, math.MaxInt, math.MaxInt - 1, math.MinInt, math.MinInt + 1}
}

// noTicks are numbers of no tick.
func noTicks() []int {
	return []int{-1, -2, -24, top + 1, top + 2, 2 * top, 1 << 31, 1 << 32, 1<<32 + 5, 1 << 62, -1 << 32, -1 << 62, math.MaxInt, math.MaxInt - 1, math.MinInt, math.MinInt + 1}
}

// someTicks are the edges, and a walk over all the others.
func someTicks() []int {
	l := []int{0, 1, 2, 3, 23, 24, 25, 26, 180, 1024, 1025, 4096, 8784, top - 1, top}
	for t := 37; t <= top; t += 997 {
		l = append(l, t)
	}
	return l
}

// common is the greatest common divisor.
func common(a, b int64) int64 {
	for b != 0 {
		a, b = b, a%b
	}
	return a
}

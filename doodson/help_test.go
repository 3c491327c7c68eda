package doodson_test

import (
	"math"

	"slackwater/api"
)

const (
	top    = api.MaxTick
	circle = 3600000000
)

// an angle as chapter 10's table has it.
type angle struct{ first, step int64 }

func angles() [6]angle {
	return [6]angle{{31648000, 144920521}, {2770247000, 5490165}, {2801895000, 410686}, {3343853000, 46418}, {1008432000, 22064}, {2812209000, 20}}
}

// a constituent as the document's table has it.
type constituent struct {
	name    string
	numbers api.Doodson
}

// knownOnes are the table's, their names rising.
func knownOnes() []constituent {
	return []constituent{
		{"K1", api.Doodson{1, 1, 0, 0, 0, 0}}, {"K2", api.Doodson{2, 2, 0, 0, 0, 0}}, {"L2", api.Doodson{2, 1, 0, -1, 0, 0}}, {"M2", api.Doodson{2, 0, 0, 0, 0, 0}},
		{"M4", api.Doodson{4, 0, 0, 0, 0, 0}}, {"MS4", api.Doodson{4, 2, -2, 0, 0, 0}}, {"Mf", api.Doodson{0, 2, 0, 0, 0, 0}}, {"Mm", api.Doodson{0, 1, 0, -1, 0, 0}},
		{"N2", api.Doodson{2, -1, 0, 1, 0, 0}}, {"N2x", api.Doodson{2, -2, 0, 2, 0, 0}}, {"O1", api.Doodson{1, -1, 0, 0, 0, 0}}, {"P1", api.Doodson{1, 1, -2, 0, 0, 0}},
		{"Q1", api.Doodson{1, -2, 0, 1, 0, 0}}, {"S2", api.Doodson{2, 2, -2, 0, 0, 0}}, {"Sa", api.Doodson{0, 0, 1, 0, 0, 0}}, {"Ssa", api.Doodson{0, 0, 2, 0, 0, 0}},
	}
}

// everyOne goes over all numbers that may be: 9 to the power 6.
func everyOne(yield func(api.Doodson) bool) {
	for i := range 531441 {
		var n api.Doodson
		for k := range n {
			n[k] = int8(i%9 - 4)
			i /= 9
		}
		if !yield(n) {
			return
		}
	}
}

// someOnes are the known ones, the edges, and a walk over all the others.
func someOnes() (l []api.Doodson) {
	for _, c := range knownOnes() {
		l = append(l, c.numbers)
	}
	l = append(l, api.Doodson{}, api.Doodson{4, 4, 4, 4, 4, 4}, api.Doodson{-4, -4, -4, -4, -4, -4}, api.Doodson{4, -4, 4, -4, 4, -4}, api.Doodson{2, 2, -3, 0, 0, 1})
	for k := range 6 {
		for _, x := range []int8{-4, -1, 1, 4} {
			var n api.Doodson
			n[k] = x
			l = append(l, n)
		}
	}
	i := 0
	for n := range everyOne {
		if i%4999 == 0 {
			l = append(l, n)
		}
		i++
	}
	return l
}

// wrongOnes are numbers that may not be, at each place: sums of some would wrap round to such as may be.
func wrongOnes() (l []api.Doodson) {
	for k := range 6 {
		for _, x := range []int8{-128, -127, -126, -64, -9, -8, -6, -5, 5, 6, 8, 9, 64, 126, 127} {
			n := api.Doodson{1, -1, 0, 4, -4, 2}
			n[k] = x
			l = append(l, n, api.Doodson{x, x, x, x, x, x})
		}
	}
	return l
}

// noTicks are numbers of no tick.
func noTicks() []int {
	return []int{-1, -2, -24, top + 1, top + 2, 2 * top, 1 << 31, 1 << 32, 1<<32 + 5, 1 << 62, -1 << 32, -1 << 62, math.MaxInt, math.MaxInt - 1, math.MinInt, math.MinInt + 1}
}

// someTicks are the edges, and a walk over all the others.
func someTicks() []int {
	l := []int{0, 1, 2, 23, 24, 1024, 1025, top - 1, top}
	for t := 37; t < top; t += 99991 {
		l = append(l, t)
	}
	return l
}

// round is the turn of so many units, in lowest terms.
func round(units int64) api.Turn {
	part := (units%circle + circle) % circle
	a, b := int64(circle), part
	for b != 0 {
		a, b = b, a%b
	}
	return api.Turn{Part: part / a, Whole: circle / a}
}

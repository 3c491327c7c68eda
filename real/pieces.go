package real

import (
	"math"
	"math/bits"

	"slackwater/api"
)

const (
	tail   = 52        // bits of a float below its exponent's
	field  = 1<<11 - 1 // an exponent's bits, all of them
	lowest = -1074     // the least float is 2 to this power
)

// pieces is a finite float taken apart: its size is count times 2^unit, and the next one above has one more.
type pieces struct {
	neg   bool
	count uint64
	unit  int
}

// finite tells whether a float is neither an infinity nor NaN.
func finite(x float64) bool { return math.Float64bits(x)>>tail&field != field }

// takeApart takes a finite float apart. The floats that are too small for a leading bit of their own have the same unit as the least that have one.
func takeApart(x float64) pieces {
	b := math.Float64bits(x)
	p := pieces{neg: b>>63 == 1, count: b & (1<<tail - 1), unit: lowest}
	if exponent := int(b >> tail & field); exponent > 0 {
		p.count |= 1 << tail
		p.unit += exponent - 1
	}
	return p
}

// putTogether is the way back of sizes. A count of 2^53 goes over into the next unit by itself, beyond the greatest float into the infinity.
func putTogether(p pieces) float64 {
	return math.Float64frombits(uint64(p.unit-lowest)<<tail + p.count)
}

// fraction tells what a float that was taken apart is: without the noughts at its count's end that is in lowest terms.
func fraction(p pieces) api.Ratio {
	if p.count == 0 {
		return api.Ratio{Den: []uint32{1}}
	}
	noughts := bits.TrailingZeros64(p.count)
	r := api.Ratio{Neg: p.neg, Num: words(p.count >> noughts), Den: []uint32{1}}
	if unit := p.unit + noughts; unit < 0 {
		r.Den = shifted(r.Den, -unit)
	} else {
		r.Num = shifted(r.Num, unit)
	}
	return r
}

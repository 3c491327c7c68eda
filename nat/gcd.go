package nat

import (
	"math/bits"

	"slackwater/api"
)

// Gcd tells the greatest common divisor.
func Gcd(a, b []uint32) ([]uint32, api.Errno) {
	if e := checkBoth(a, b); e != api.OK {
		return nil, e
	}
	return commonDivisor(a, b), api.OK
}

// commonDivisor divides in turn as Euclid did, but takes many steps at once where the highest bits tell them: each step alone would go over all the words.
func commonDivisor(a, b []uint32) []uint32 {
	if Compare(a, b) < 0 {
		a, b = b, a
	}
	x, y := make([]uint32, len(a)), make([]uint32, len(a))
	copy(x, a)
	copy(y, b)
	for size(y) > 2 {
		l := look(x, y)
		if l.steps > 0 {
			l.apply(x, y)
		} else {
			replace(x, y)
			x, y = y, x
		}
		n := size(x)
		x, y = x[:n], y[:n]
	}
	return smallDivisor(x, y[:size(y)])
}

// replace makes x its rest by y.
func replace(x, y []uint32) {
	_, rest := divide(x, y[:size(y)])
	clear(x)
	copy(x, rest)
}

// smallDivisor tells the greatest common divisor of x and of y, which has at most two words.
func smallDivisor(x, y []uint32) []uint32 {
	if len(y) == 0 {
		return Trim(x)
	}
	_, rest := divide(x, y)
	p, _ := Uint64(y)
	q, _ := Uint64(rest)
	for q != 0 {
		p, q = q, p%q
	}
	return Of(p)
}

// leap is some of Euclid's steps in one: the pair x, y becomes xx x + xy y, yx x + yy y. The two factors of one sum have unlike signs, and sizes below 2^31.
type leap struct {
	steps  int
	xx, xy int64
	yx, yy int64
}

// look finds steps that hold whatever stands below the highest 62 bits of x and the bits of y beside them. Both have the same number of words, three at least, the highest of x not 0, and y is not above x.
func look(x, y []uint32) leap {
	shift := bits.LeadingZeros32(x[len(x)-1])
	p, q := highest(x, shift), highest(y, shift)
	sure := leap{0, 1, 0, 0, 1}
	for q != 0 {
		next, rest := sure.step(p/q), p%q
		p, q = q, rest
		if !next.holds(p, q) {
			break
		}
		sure = next
	}
	return sure
}

// highest tells 62 of the three highest words' bits, without the first ones.
func highest(x []uint32, shift int) int64 {
	n := len(x)
	high := uint64(x[n-1])<<wordBits | uint64(x[n-2])
	high = high<<shift | uint64(x[n-3])>>(wordBits-shift)
	return int64(high >> 2)
}

// step goes on by a division with this quotient.
func (l leap) step(quotient int64) leap {
	return leap{l.steps + 1, l.yx, l.yy, l.xx - quotient*l.yx, l.xy - quotient*l.yy}
}

// holds tells whether a leap that makes the highest bits p and q surely makes the whole numbers such that the second is from 0 on and below the first. All that stands lower can change q by less than yy's size, and p less q by less than the sizes of xy and yy together.
func (l leap) holds(p, q int64) bool {
	first, second := sizeOf(l.xy), sizeOf(l.yy)
	return q >= second && p-q >= first+second
}

// apply makes the leap. Sizes below 2^31 leave room for the carry in 64 bits.
func (l leap) apply(x, y []uint32) {
	y = y[:len(x)]
	var carryX, carryY int64
	for i := range x {
		v, w := int64(x[i]), int64(y[i])
		carryX += l.xx*v + l.xy*w
		carryY += l.yx*v + l.yy*w
		x[i], y[i] = uint32(carryX), uint32(carryY)
		carryX >>= wordBits
		carryY >>= wordBits
	}
}

// sizeOf tells a number without its sign.
func sizeOf(n int64) int64 {
	if n < 0 {
		return -n
	}
	return n
}

package real

import (
	"math"
	"math/bits"

	"slackwater/api"
)

// division is a fraction's size, 2^power times rest over by, on its way to a float: from step to step rest is doubled, and stays below twice by. Both have the same number of words.
type division struct {
	rest  []uint32
	by    []uint32
	power int
}

// nearestSize tells the float nearest to the size of a fraction that is not 0, the infinity, if there is none.
func nearestSize(r api.Ratio) float64 {
	d := begin(r.Num, r.Den)
	count := min(tail+1, d.power-lowest+1)
	switch {
	case d.power > 1023:
		return math.Inf(1)
	case count < 0:
		return 0
	}
	p := pieces{count: d.take(count), unit: d.power - count + 1}
	switch compare(d.rest, d.by) {
	case 1:
		p.count++
	case 0:
		p.count += p.count & 1
	}
	return putTogether(p)
}

// begin shifts one of two numbers till they have as many bits as each other, one more where it is the lesser one: so num over den is from 2^power on, and below twice that.
func begin(num, den []uint32) division {
	power := length(num) - length(den)
	d := division{rest: shifted(num, max(0, -power)), by: shifted(den, max(0, power)), power: power}
	// Room for what is doubled.
	d.rest, d.by = append(d.rest, 0), append(d.by, 0)
	if compare(d.rest, d.by) < 0 {
		double(d.rest)
		d.power--
	}
	return d
}

// take goes so many steps on and tells the quotient's bits.
func (d *division) take(count int) (quotient uint64) {
	for range count {
		quotient *= 2
		if compare(d.rest, d.by) >= 0 {
			takeOff(d.rest, d.by)
			quotient++
		}
		double(d.rest)
	}
	return quotient
}

// words tells a number above 0 as words.
func words(x uint64) []uint32 {
	if x>>32 == 0 {
		return []uint32{uint32(x)}
	}
	return []uint32{uint32(x), uint32(x >> 32)}
}

// length tells how many bits a number above 0 has.
func length(a []uint32) int { return 32*len(a) - bits.LeadingZeros32(a[len(a)-1]) }

// shifted tells a number above 0 times 2^by, without noughts at the end, in memory of its own.
func shifted(a []uint32, by int) []uint32 {
	s := make([]uint32, (length(a)+by+31)/32)
	for i, word := range a {
		wide := uint64(word) << (by % 32)
		s[by/32+i] |= uint32(wide)
		if high := uint32(wide >> 32); high > 0 {
			s[by/32+i+1] = high
		}
	}
	return s
}

// compare tells -1, 0 or 1 of two lists of as many words.
func compare(a, b []uint32) int {
	for i := len(a) - 1; i >= 0; i-- {
		switch {
		case a[i] < b[i]:
			return -1
		case a[i] > b[i]:
			return 1
		}
	}
	return 0
}

// double doubles a number that has the room for it, in place.
func double(a []uint32) {
	carry := uint32(0)
	for i, word := range a {
		a[i] = word<<1 | carry
		carry = word >> 31
	}
}

// takeOff takes b, which is not above a, off a, in place.
func takeOff(a, b []uint32) {
	borrow := uint32(0)
	for i := range a {
		a[i], borrow = bits.Sub32(a[i], b[i], borrow)
	}
}

package nat

import (
	"math/bits"

	"slackwater/api"
)

// maxWord is the greatest word.
const maxWord = 1<<wordBits - 1

// DivMod tells the quotient rounded down, and the rest; ErrZero, if b is 0.
func DivMod(a, b []uint32) ([]uint32, []uint32, api.Errno) {
	if e := checkBoth(a, b); e != api.OK {
		return nil, nil, e
	}
	if len(b) == 0 {
		return nil, nil, api.ErrZero
	}
	quotient, rest := divide(a, b)
	return quotient, rest, api.OK
}

// divide divides trimmed numbers, b not being 0.
func divide(a, b []uint32) (quotient, rest []uint32) {
	switch {
	case Compare(a, b) < 0:
		return nil, Trim(a)
	case len(b) == 1:
		quotient = Trim(a)
		over := divideByWord(quotient, b[0])
		return quotient[:size(quotient)], Of(uint64(over))
	}
	return divideLong(a, b)
}

// divideByWord makes a its quotient by w, and tells the rest.
func divideByWord(a []uint32, w uint32) uint32 {
	rest := uint64(0)
	for i := len(a) - 1; i >= 0; i-- {
		left := rest<<wordBits | uint64(a[i])
		a[i] = uint32(left / uint64(w))
		rest = left % uint64(w)
	}
	return uint32(rest)
}

// divideLong divides by two words or more, a not being less than b.
func divideLong(a, b []uint32) (quotient, rest []uint32) {
	// With the divisor's highest bit set a guess from its two highest words is at most one too great.
	shift := bits.LeadingZeros32(b[len(b)-1])
	divisor := raise(b, 0, shift)[:len(b)]
	left := raise(a, 0, shift)
	quotient = make([]uint32, len(a)-len(b)+1)
	for i := len(quotient) - 1; i >= 0; i-- {
		quotient[i] = nextWord(left[i:i+len(b)+1], divisor)
	}
	rest = lower(left[:len(b)], 0, shift)
	return quotient[:size(quotient)], rest[:size(rest)]
}

// nextWord tells how often the divisor goes into left, which has a word more, and leaves the rest there.
func nextWord(left, divisor []uint32) uint32 {
	word := guess(left, divisor)
	if takeTimes(left, divisor, word) {
		giveBack(left, divisor)
		word--
	}
	return word
}

// guess tells how often the divisor goes into left by the three highest words of left and the two highest of the divisor: just so often, or once too often.
func guess(left, divisor []uint32) uint32 {
	n := len(divisor)
	high, low := uint64(divisor[n-1]), uint64(divisor[n-2])
	top := uint64(left[n])<<wordBits | uint64(left[n-1])
	word, rest := top/high, top%high
	for word > maxWord || word*low > rest<<wordBits|uint64(left[n-2]) {
		word--
		rest += high
		if rest > maxWord {
			break
		}
	}
	return uint32(word)
}

// takeTimes takes the divisor times w off left, and tells whether that was once too often.
func takeTimes(left, divisor []uint32, w uint32) bool {
	n := len(divisor)
	owed := uint64(0)
	for i, x := range divisor {
		owed += uint64(w) * uint64(x)
		d := uint64(left[i]) - uint64(uint32(owed))
		left[i] = uint32(d)
		// Where the word was too small d is below 0: its highest bit goes on as 1 more.
		owed = owed>>wordBits + d>>63
	}
	short := uint64(left[n]) < owed
	left[n] -= uint32(owed)
	return short
}

// giveBack adds the divisor to left once; what is carried out at the top undoes what was owed there.
func giveBack(left, divisor []uint32) {
	n := len(divisor)
	carry := uint64(0)
	for i, x := range divisor {
		carry += uint64(left[i]) + uint64(x)
		left[i] = uint32(carry)
		carry >>= wordBits
	}
	left[n] += uint32(carry)
}

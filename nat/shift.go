package nat

import "slackwater/api"

// Shift tells a times 2^n, rounded down.
func Shift(a []uint32, n int) ([]uint32, api.Errno) {
	if e := Check(a); e != api.OK {
		return nil, e
	}
	switch {
	case n < -api.MaxShift || n > api.MaxShift:
		return nil, api.ErrArg
	case len(a) == 0 || Bits(a)+n <= 0:
		return nil, api.OK
	case Bits(a)+n > api.MaxWide*wordBits:
		return nil, api.ErrLong
	case n < 0:
		return told(lower(a, -n/wordBits, -n%wordBits))
	}
	return told(raise(a, n/wordBits, n%wordBits))
}

// raise moves a up by whole words and by less than a word of bits, into one word more than those.
func raise(a []uint32, words, shift int) []uint32 {
	up := make([]uint32, len(a)+words+1)
	carry := uint64(0)
	for i, w := range a {
		carry |= uint64(w) << shift
		up[i+words] = uint32(carry)
		carry >>= wordBits
	}
	up[len(a)+words] = uint32(carry)
	return up
}

// lower moves a, which has more words than those, down by whole words and by less than a word of bits.
func lower(a []uint32, words, shift int) []uint32 {
	down := make([]uint32, len(a)-words)
	above := uint64(0)
	for i := len(down) - 1; i >= 0; i-- {
		above = above<<wordBits | uint64(a[i+words])
		down[i] = uint32(above >> shift)
	}
	return down
}

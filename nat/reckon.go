package nat

import "slackwater/api"

// Add tells the sum.
func Add(a, b []uint32) ([]uint32, api.Errno) {
	if e := checkBoth(a, b); e != api.OK {
		return nil, e
	}
	return told(sum(a, b))
}

// Sub tells a less b; ErrArg, if a is less than b.
func Sub(a, b []uint32) ([]uint32, api.Errno) {
	if e := checkBoth(a, b); e != api.OK {
		return nil, e
	}
	if Compare(a, b) < 0 {
		return nil, api.ErrArg
	}
	return told(difference(a, b))
}

// Mul tells the product.
func Mul(a, b []uint32) ([]uint32, api.Errno) {
	if e := checkBoth(a, b); e != api.OK {
		return nil, e
	}
	if len(a) == 0 || len(b) == 0 {
		return nil, api.OK
	}
	// A product has at least one word less than both together: what is surely too long need not be worked out.
	if len(a)+len(b)-1 > api.MaxWide {
		return nil, api.ErrLong
	}
	return told(product(a, b))
}

// sum adds, with room for a last carry.
func sum(a, b []uint32) []uint32 {
	if len(a) < len(b) {
		a, b = b, a
	}
	s := make([]uint32, len(a)+1)
	carry := uint64(0)
	for i, w := range a {
		carry += uint64(w)
		if i < len(b) {
			carry += uint64(b[i])
		}
		s[i] = uint32(carry)
		carry >>= wordBits
	}
	s[len(a)] = uint32(carry)
	return s
}

// difference takes b off a, which is not less.
func difference(a, b []uint32) []uint32 {
	d := make([]uint32, len(a))
	// The carry is 0 or -1: what the words so far still owe.
	carry := int64(0)
	for i, w := range a {
		carry += int64(w)
		if i < len(b) {
			carry -= int64(b[i])
		}
		d[i] = uint32(carry)
		carry >>= wordBits
	}
	return d
}

// product multiplies each word of one number with the whole other one.
func product(a, b []uint32) []uint32 {
	p := make([]uint32, len(a)+len(b))
	for i, w := range a {
		end := i + len(b)
		p[end] = addTimes(p[i:end], b, w)
	}
	return p
}

// addTimes adds b times w to p, which has as many words as b, and tells the word that is carried on.
func addTimes(p, b []uint32, w uint32) uint32 {
	p = p[:len(b)]
	// A product of two words and two words more are just below 2^64.
	carry := uint64(0)
	for i, x := range b {
		carry += uint64(w)*uint64(x) + uint64(p[i])
		p[i] = uint32(carry)
		carry >>= wordBits
	}
	return uint32(carry)
}

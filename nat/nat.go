// Package nat is layer 1: natural numbers as words of 32 bits, the lowest first: see shared/doc/01-nat.md.
package nat

import (
	"math/bits"

	"slackwater/api"
)

// wordBits is how many bits a word has.
const wordBits = 32

// Check tells whether a natural number may be: ErrLong above MaxWide words, ErrNormal where it is not trimmed.
func Check(a []uint32) api.Errno {
	switch {
	case len(a) > api.MaxWide:
		return api.ErrLong
	case size(a) != len(a):
		return api.ErrNormal
	}
	return api.OK
}

// Trim tells the list of the same value without noughts at its end.
func Trim(a []uint32) []uint32 {
	trimmed := make([]uint32, size(a))
	copy(trimmed, a)
	return trimmed
}

// Compare tells -1, 0 or 1: whether a's value is less than b's, the same, greater.
func Compare(a, b []uint32) int {
	n, m := size(a), size(b)
	switch {
	case n < m:
		return -1
	case n > m:
		return 1
	}
	for i := n - 1; i >= 0; i-- {
		switch {
		case a[i] < b[i]:
			return -1
		case a[i] > b[i]:
			return 1
		}
	}
	return 0
}

// Bits tells the least n such that the value is below 2^n.
func Bits(a []uint32) int {
	n := size(a)
	if n == 0 {
		return 0
	}
	return (n-1)*wordBits + bits.Len32(a[n-1])
}

// Of makes the natural number x.
func Of(x uint64) []uint32 {
	return Trim([]uint32{uint32(x), uint32(x >> wordBits)})
}

// Uint64 tells the value and true, if it is below 2^64; else 0 and false.
func Uint64(a []uint32) (uint64, bool) {
	switch size(a) {
	case 0:
		return 0, true
	case 1:
		return uint64(a[0]), true
	case 2:
		return uint64(a[1])<<wordBits | uint64(a[0]), true
	}
	return 0, false
}

// size tells how many words a list has without the noughts at its end.
func size(a []uint32) int {
	n := len(a)
	for n > 0 && a[n-1] == 0 {
		n--
	}
	return n
}

// checkBoth tells the error of the first number, else that of the second one.
func checkBoth(a, b []uint32) api.Errno {
	if e := Check(a); e != api.OK {
		return e
	}
	return Check(b)
}

// told hands out words that the caller made: trimmed, or refused where they are too many.
func told(a []uint32) ([]uint32, api.Errno) {
	n := size(a)
	if n > api.MaxWide {
		return nil, api.ErrLong
	}
	return a[:n], api.OK
}

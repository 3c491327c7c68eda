package nat_test

import (
	"slices"
	"testing"

	"slackwater/api"
	"slackwater/nat"
)

// w writes a list of words.
func w(words ...uint32) []uint32 { return words }

// same holds lists against each other; nil and empty are the same.
func same(a, b []uint32) bool { return slices.Equal(a, b) }

// full is a list of n words that are all x.
func full(n int, x uint32) []uint32 {
	a := make([]uint32, n)
	for i := range a {
		a[i] = x
	}
	return a
}

// power is 2^n.
func power(n int) []uint32 {
	a := make([]uint32, n/32+1)
	a[n/32] = 1 << (n % 32)
	return a
}

// dice is a source of numbers that is the same at each run.
type dice uint64

func (d *dice) next() uint64 {
	*d = *d*6364136223846793005 + 1442695040888963407
	x := uint64(*d)
	return x ^ x>>29
}

func (d *dice) below(n int) int { return int(d.next() >> 11 % uint64(n)) }

// number throws a natural number of at most n words; in three of four the words are such as are carried, borrowed and guessed badly.
func (d *dice) number(n int) []uint32 {
	edges := []uint32{0, 0, 1, 2, 1<<16 - 1, 1<<31 - 1, 1 << 31, 1<<31 + 1, 1<<32 - 2, 1<<32 - 1, 1<<32 - 1}
	a := make([]uint32, d.below(n+1))
	kind := d.below(4)
	for i := range a {
		switch {
		case kind == 0, kind == 1 && d.below(2) == 0:
			a[i] = uint32(d.next())
		default:
			a[i] = edges[d.below(len(edges))]
		}
	}
	for len(a) > 0 && a[len(a)-1] == 0 {
		a = a[:len(a)-1]
	}
	return a
}

// must hands on an answer that may not be refused and must be trimmed.
func must(t *testing.T) func(a []uint32, e api.Errno) []uint32 {
	return func(a []uint32, e api.Errno) []uint32 {
		t.Helper()
		if e != api.OK || len(a) > 0 && a[len(a)-1] == 0 {
			t.Fatalf("answered %v of %d words", e, len(a))
		}
		return a
	}
}

// refused looks whether an answer is this error, and nothing beside it.
func refused(t *testing.T, what string, a []uint32, e, want api.Errno) {
	t.Helper()
	if e != want || len(a) != 0 {
		t.Errorf("%s: %v and %d words, not %v alone", what, e, len(a), want)
	}
}

// plusText adds decimal digits as by hand.
func plusText(a, b string) string {
	var digits []byte
	carry := 0
	for i := 1; i <= len(a) || i <= len(b) || carry > 0; i++ {
		if i <= len(a) {
			carry += int(a[len(a)-i] - '0')
		}
		if i <= len(b) {
			carry += int(b[len(b)-i] - '0')
		}
		digits = append(digits, byte('0'+carry%10))
		carry /= 10
	}
	slices.Reverse(digits)
	return string(digits)
}

// timesText multiplies decimal digits as by hand.
func timesText(a, b string) string {
	sums := make([]int, len(a)+len(b))
	for i := range len(a) {
		for j := range len(b) {
			sums[i+j+1] += int(a[i]-'0') * int(b[j]-'0')
		}
	}
	digits := make([]byte, len(sums))
	for i := len(sums) - 1; i >= 0; i-- {
		if i > 0 {
			sums[i-1] += sums[i] / 10
		}
		digits[i] = byte('0' + sums[i]%10)
	}
	for len(digits) > 1 && digits[0] == '0' {
		digits = digits[1:]
	}
	return string(digits)
}

// text is Print of a number that may be.
func text(t *testing.T, a []uint32) string {
	t.Helper()
	s, e := nat.Print(a)
	if e != api.OK {
		t.Fatal("Print", e)
	}
	return s
}

package rotor_test

import (
	"math"
	"slices"
	"testing"

	"slackwater/api"
	"slackwater/gauss"
)

// o writes a rotor.
func o(far, near int32) api.Rotor { return api.Rotor{Far: far, Near: near} }

// q writes the fraction n over d, d above 0, without calling what is tested.
func q(n, d int64) api.Ratio {
	size := uint64(n)
	if n < 0 {
		size = -size
	}
	common := greatestDivisor(size, uint64(d))
	return api.Ratio{Neg: n < 0, Num: list(size / common), Den: list(uint64(d) / common)}
}

func greatestDivisor(a, b uint64) uint64 {
	for b != 0 {
		a, b = b, a%b
	}
	return a
}

// list writes the words of a number.
func list(x uint64) []uint32 {
	words := []uint32{uint32(x), uint32(x >> 32)}
	for len(words) > 0 && words[len(words)-1] == 0 {
		words = words[:len(words)-1]
	}
	return words
}

// z writes the number a over d and b over e.
func z(a, d, b, e int64) api.Gauss { return api.Gauss{Re: q(a, d), Im: q(b, e)} }

// numberOf writes a rotor's number as the document defines it.
func numberOf(r api.Rotor) api.Gauss {
	far, near := int64(r.Far), int64(r.Near)
	norm := far*far + near*near
	return z(far*far-near*near, norm, 2*far*near, norm)
}

// same holds numbers against each other; a list that is nil and an empty one are the same.
func same(a, b api.Gauss) bool { return sameRatio(a.Re, b.Re) && sameRatio(a.Im, b.Im) }

func sameRatio(a, b api.Ratio) bool {
	return a.Neg == b.Neg && slices.Equal(a.Num, b.Num) && slices.Equal(a.Den, b.Den)
}

// opposite is the number with the other imaginary part.
func opposite(a api.Gauss) api.Gauss {
	a.Im.Neg = !a.Im.Neg && len(a.Im.Num) > 0
	return a
}

// nothing tells whether an answer is the zero value.
func nothing(a api.Gauss) bool {
	return !a.Re.Neg && !a.Im.Neg && len(a.Re.Num)+len(a.Re.Den)+len(a.Im.Num)+len(a.Im.Den) == 0
}

// must hands on a number that may not be refused and must be in its one form.
func must(t *testing.T) func(a api.Gauss, e api.Errno) api.Gauss {
	return func(a api.Gauss, e api.Errno) api.Gauss {
		t.Helper()
		if e != api.OK || gauss.Check(a) != api.OK {
			t.Fatalf("answered %v, %v", e, text(a))
		}
		return a
	}
}

// text tells of a number what a fault's line can hold.
func text(a api.Gauss) string {
	s, e := gauss.Print(a)
	if e != api.OK {
		return e.Error()
	}
	return s[:min(len(s), 100)]
}

// refused looks whether an answer is this error, and nothing beside it.
func refused(t *testing.T, what string, a api.Gauss, e, want api.Errno) {
	t.Helper()
	if e != want || !nothing(a) {
		t.Errorf("%s: %v, %s, not %v alone", what, e, text(a), want)
	}
}

// wrong are rotors that may not be.
func wrong() []api.Rotor {
	return []api.Rotor{
		o(0, 0), o(0, 1), o(0, -1), o(1, 0), o(2, 0), o(1000, 0), o(1, 1), o(1, -1), o(7, 7), o(7, -7), o(1000, 1000), o(1000, -1000), o(2, 4), o(4, 2), o(-4, 2), o(9, -15), o(999, 3), o(1000, 998), o(1000, -5), o(961, 31), o(31, -961),
		o(-1, 2), o(-2, 1), o(-2, -1), o(1001, 1), o(1001, -1), o(1001, 1000), o(1, 1001), o(1, -1001), o(1000, 1001), o(1000, -1001), o(-1000, 999), o(1009, 1013), o(2, 1<<16+1), o(2, -1<<16-1), o(1<<16+2, 1), o(2, 1<<30+1),
		o(math.MaxInt32, 1), o(math.MinInt32, 1), o(1, math.MaxInt32), o(1, math.MinInt32), o(math.MinInt32, math.MinInt32), o(math.MaxInt32, math.MinInt32), o(2, math.MinInt32), o(math.MinInt32, 3),
	}
}

// right are rotors that may be, the edges among them.
func right() []api.Rotor {
	return []api.Rotor{
		o(2, 1), o(1, 2), o(2, -1), o(1, -2), o(3, 1), o(3, -1), o(1, 3), o(3, 2), o(5, 3), o(4, -1), o(7, 24), o(99, 101), o(1000, 1), o(1000, -1), o(1, 1000), o(1, -1000), o(1000, 999), o(999, 1000), o(1000, -999), o(999, -1000), o(999, 997), o(997, -999), o(512, 625), o(641, 640),
	}
}

// smallest are all rotors that may be up to a Far and a size of Near.
func smallest(top int32) (l []api.Rotor) {
	for far := int32(1); far <= top; far++ {
		for near := -top; near <= top; near++ {
			if near != 0 && far != near && far != -near && greatestDivisor(uint64(far), uint64(max(near, -near))) == 1 {
				l = append(l, o(far, near))
			}
		}
	}
	return l
}

// dice is a source of numbers that is the same at each run.
type dice uint64

func (d *dice) next() uint64 {
	*d = *d*6364136223846793005 + 1442695040888963407
	x := uint64(*d)
	return x ^ x>>29
}

func (d *dice) below(k int) int { return int(d.next() >> 11 % uint64(k)) }

// rotor throws a rotor that may be.
func (d *dice) rotor() api.Rotor {
	for {
		far, near := int32(1+d.below(1000)), int32(1+d.below(1000))
		if far == near || greatestDivisor(uint64(far), uint64(near)) > 1 {
			continue
		}
		if d.below(2) == 0 {
			near = -near
		}
		return o(far, near)
	}
}

// scribbled writes over an answer's lists and their spare room one by one, and tells whether the others stayed as they were.
func scribbled(a api.Gauss) bool {
	lists := [][]uint32{a.Re.Num, a.Re.Den, a.Im.Num, a.Im.Den}
	for i, words := range lists {
		var was [][]uint32
		for _, other := range lists {
			was = append(was, slices.Clone(other[:cap(other)]))
		}
		for j := range words[:cap(words)] {
			words[:cap(words)][j] = uint32(12345 + i)
		}
		for j, other := range lists {
			if j != i && !slices.Equal(other[:cap(other)], was[j]) {
				return false
			}
		}
	}
	return true
}

// copyOf is a number in other memory.
func copyOf(a api.Gauss) api.Gauss {
	return api.Gauss{Re: copyOfRatio(a.Re), Im: copyOfRatio(a.Im)}
}

func copyOfRatio(a api.Ratio) api.Ratio {
	return api.Ratio{Neg: a.Neg, Num: slices.Clone(a.Num), Den: slices.Clone(a.Den)}
}

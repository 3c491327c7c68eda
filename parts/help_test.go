package parts_test

import (
	"math"
	"slices"
	"testing"

	"slackwater/api"
	"slackwater/parts"
	"slackwater/ratio"
)

const (
	least    = math.SmallestNonzeroFloat64
	greatest = math.MaxFloat64
)

// low is -0, endless the infinity; no is what is no number.
var (
	low     = math.Copysign(0, -1)
	endless = math.Inf(1)
	no      = math.NaN()
)

// The steps that the document names, each in a function of its own, which no compiler joins with another.

//go:noinline
func plus(x, y float64) float64 { return x + y }

//go:noinline
func less(x, y float64) float64 { return x - y }

//go:noinline
func times(x, y float64) float64 { return x * y }

//go:noinline
func over(x, y float64) float64 { return x / y }

//go:noinline
func root(x float64) float64 { return math.Sqrt(x) }

// turned is a real with the other sign, by its bits.
func turned(x float64) float64 { return math.Float64frombits(math.Float64bits(x) ^ 1<<63) }

// alike tells whether two reals have the same bits, or are both NaN.
func alike(x, y float64) bool {
	return math.Float64bits(x) == math.Float64bits(y) || x != x && y != y
}

// are tells whether a number's parts are these two, to the bit.
func are(z complex128, re, im float64) bool { return alike(real(z), re) && alike(imag(z), im) }

// bare tells whether a number is the zero value, by its bits.
func bare(z complex128) bool { return math.Float64bits(real(z))|math.Float64bits(imag(z)) == 0 }

// ends are reals that are not finite, NaNs of unlike bits among them.
func ends() []float64 {
	return []float64{endless, -endless, no, math.Float64frombits(0xFFF0000000000001), math.Float64frombits(0x7FFFFFFFFFFFFFFF)}
}

// edges are finite reals at which signs, units and bits end.
func edges() (l []float64) {
	for _, x := range []float64{
		0, least, 2 * least, 3 * least, 0x1p-1022 - least, 0x1p-1022, 0x1p-1021, 0x1p-538, 0x1p-537, 0x1p-500, 0x1p-27, 0x1p-26, 0.1, 0.5, 1 - 0x1p-53, 1, 1 + 0x1p-52, 1 + 0x1p-30, 2, 3,
		1 / 3.0, math.Pi, 1<<53 - 1, 1 << 53, 1e154, 0x1p511, 0x1p512, 1e300, 1e308, 0x1p1022, 0x1p1023 - 0x1p970, 0x1p1023, greatest - 0x1p971, greatest,
	} {
		l = append(l, x, turned(x))
	}
	return l
}

// dice is a source of numbers that is the same at each run.
type dice uint64

func (d *dice) next() uint64 {
	*d = *d*6364136223846793005 + 1442695040888963407
	x := uint64(*d)
	return x ^ x>>29
}

func (d *dice) below(k int) int { return int(d.next() >> 11 % uint64(k)) }

// finite throws a finite real of any unit; in half of them most bits are alike.
func (d *dice) finite() float64 {
	for {
		b := d.next()<<32 ^ d.next()
		if d.below(2) == 0 {
			b &^= (1<<52 - 1) >> d.below(53)
		}
		if x := math.Float64frombits(b); x-x == 0 {
			return x
		}
	}
}

// near throws a real whose size is from 2^-k to 2^k.
func (d *dice) near(k int) float64 {
	x := math.Ldexp(float64(1<<52+d.next()>>12), d.below(2*k)-k-52)
	if d.below(2) == 0 {
		return -x
	}
	return x
}

// real throws any real: at an edge, beyond all, small, of any unit.
func (d *dice) real() float64 {
	switch d.below(4) {
	case 0:
		return edges()[d.below(len(edges()))]
	case 1:
		return d.near(3)
	case 2:
		if d.below(4) == 0 {
			return ends()[d.below(len(ends()))]
		}
	}
	return d.finite()
}

// number throws a number with any reals for parts; in some of them they are of one size.
func (d *dice) number() complex128 {
	re := d.real()
	switch d.below(8) {
	case 0:
		return complex(re, re)
	case 1:
		return complex(re, turned(re))
	}
	return complex(re, d.real())
}

// q writes the fraction n over d, both without a common divisor, d above 0.
func q(n, d int64) api.Ratio {
	if n < 0 {
		return api.Ratio{Neg: true, Num: list(uint64(-n)), Den: list(uint64(d))}
	}
	return api.Ratio{Num: list(uint64(n)), Den: list(uint64(d))}
}

// list writes the words of a number.
func list(x uint64) []uint32 {
	words := []uint32{uint32(x), uint32(x >> 32)}
	for len(words) > 0 && words[len(words)-1] == 0 {
		words = words[:len(words)-1]
	}
	return words
}

// full is a list of so many words that are all x.
func full(words int, x uint32) []uint32 { return slices.Repeat([]uint32{x}, words) }

// power writes 2^k, k of either sign.
func power(k int) api.Ratio {
	size := max(k, -k)
	words := make([]uint32, size/32+1)
	words[size/32] = 1 << (size % 32)
	if k < 0 {
		return api.Ratio{Num: list(1), Den: words}
	}
	return api.Ratio{Num: words, Den: list(1)}
}

// opposite is 0 less a fraction that is not 0.
func opposite(a api.Ratio) api.Ratio {
	a.Neg = !a.Neg
	return a
}

// g writes a number of two parts.
func g(re, im api.Ratio) api.Gauss { return api.Gauss{Re: re, Im: im} }

// same holds complex fractions against each other; a list that is nil and an empty one are the same.
func same(a, b api.Gauss) bool { return sameRatio(a.Re, b.Re) && sameRatio(a.Im, b.Im) }

func sameRatio(a, b api.Ratio) bool {
	return a.Neg == b.Neg && slices.Equal(a.Num, b.Num) && slices.Equal(a.Den, b.Den)
}

// nothing tells whether an answer is the zero value.
func nothing(a api.Gauss) bool { return same(a, api.Gauss{}) }

// copied is a complex fraction in other memory.
func copied(a api.Gauss) api.Gauss {
	for _, words := range []*[]uint32{&a.Re.Num, &a.Re.Den, &a.Im.Num, &a.Im.Den} {
		*words = slices.Clone(*words)
	}
	return a
}

// exact is the complex fraction that a number must be, in its one form.
func exact(t *testing.T, z complex128) api.Gauss {
	t.Helper()
	a, e := parts.Exact(z)
	if e != api.OK || ratio.Check(a.Re) != api.OK || ratio.Check(a.Im) != api.OK {
		t.Fatalf("Exact(%v): %v", z, e)
	}
	return a
}

// must hands on a fraction that may not be refused.
func must(t *testing.T) func(a api.Ratio, e api.Errno) api.Ratio {
	return func(a api.Ratio, e api.Errno) api.Ratio {
		t.Helper()
		if e != api.OK {
			t.Fatalf("answered %v", e)
		}
		return a
	}
}

// wrongCase is a fraction that may not be, and its error.
type wrongCase struct {
	a    api.Ratio
	want api.Errno
}

// wrong are fractions that may not be.
func wrong() map[string]wrongCase {
	return map[string]wrongCase{
		"a Num too long":      {api.Ratio{Num: full(2049, 1), Den: list(1)}, api.ErrLong},
		"a Den too long":      {api.Ratio{Neg: true, Num: list(1), Den: full(2049, 1)}, api.ErrLong},
		"too long and nought": {api.Ratio{Neg: true, Num: full(2049, 0)}, api.ErrLong},
		"nothing":             {api.Ratio{}, api.ErrNormal},
		"over nothing":        {api.Ratio{Num: list(1)}, api.ErrNormal},
		"over a nought":       {api.Ratio{Num: list(1), Den: []uint32{0}}, api.ErrNormal},
		"0 that is Neg":       {api.Ratio{Neg: true, Den: list(1)}, api.ErrNormal},
		"0 over 2":            {api.Ratio{Den: list(2)}, api.ErrNormal},
		"2 over 4":            {api.Ratio{Num: list(2), Den: list(4)}, api.ErrNormal},
		"a rough Num":         {api.Ratio{Num: []uint32{1, 0}, Den: list(2)}, api.ErrNormal},
		"far too great":       {api.Ratio{Num: full(2000, 6), Den: list(3)}, api.ErrNormal},
	}
}

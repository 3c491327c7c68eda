package real_test

import (
	"math"
	"slices"
	"testing"

	"slackwater/api"
	"slackwater/ratio"
	"slackwater/real"
)

const (
	least    = math.SmallestNonzeroFloat64
	greatest = math.MaxFloat64
)

// q writes the fraction n over d, d above 0, without calling what is tested.
func q(n, d int64) api.Ratio {
	size := uint64(n)
	if n < 0 {
		size = -size
	}
	common := greatestDivisor(size, uint64(d))
	return api.Ratio{Neg: n < 0, Num: list(size / common), Den: list(uint64(d) / common)}
}

func greatestDivisor(a, b uint64) uint64 {
	for b != 0 {
		a, b = b, a%b
	}
	return a
}

// list writes the words of a number.
func list(x uint64) []uint32 {
	words := []uint32{uint32(x), uint32(x >> 32)}
	for len(words) > 0 && words[len(words)-1] == 0 {
		words = words[:len(words)-1]
	}
	return words
}

// full is a list of so many words that are all x.
func full(words int, x uint32) []uint32 { return slices.Repeat([]uint32{x}, words) }

// power writes 2^k, k of either sign.
func power(k int) api.Ratio {
	size := max(k, -k)
	words := make([]uint32, size/32+1)
	words[size/32] = 1 << (size % 32)
	if k < 0 {
		return api.Ratio{Num: list(1), Den: words}
	}
	return api.Ratio{Num: words, Den: list(1)}
}

// times is n times 2^k.
func times(t *testing.T, n int64, k int) api.Ratio {
	t.Helper()
	return must(t)(ratio.Mul(q(n, 1), power(k)))
}

// plus and less hand on sums and differences that may not be refused.
func plus(t *testing.T, a, b api.Ratio) api.Ratio { t.Helper(); return must(t)(ratio.Add(a, b)) }
func less(t *testing.T, a, b api.Ratio) api.Ratio { t.Helper(); return must(t)(ratio.Sub(a, b)) }

// opposite is 0 less a fraction.
func opposite(a api.Ratio) api.Ratio {
	a.Neg = !a.Neg && len(a.Num) > 0
	return a
}

// size is a fraction without its sign.
func size(a api.Ratio) api.Ratio {
	a.Neg = false
	return a
}

// order tells -1, 0 or 1 of two fractions.
func order(t *testing.T, a, b api.Ratio) int {
	t.Helper()
	c, e := ratio.Compare(a, b)
	if e != api.OK {
		t.Fatalf("Compare answered %v", e)
	}
	return c
}

// same holds fractions against each other; a list that is nil and an empty one are the same.
func same(a, b api.Ratio) bool {
	return a.Neg == b.Neg && slices.Equal(a.Num, b.Num) && slices.Equal(a.Den, b.Den)
}

// nothing tells whether an answer is the zero value.
func nothing(a api.Ratio) bool { return !a.Neg && len(a.Num) == 0 && len(a.Den) == 0 }

// bare tells whether a float is +0, by its bits.
func bare(x float64) bool { return math.Float64bits(x) == 0 }

// must hands on a fraction that may not be refused and must be in its one form.
func must(t *testing.T) func(a api.Ratio, e api.Errno) api.Ratio {
	return func(a api.Ratio, e api.Errno) api.Ratio {
		t.Helper()
		if e != api.OK || ratio.Check(a) != api.OK {
			t.Fatalf("answered %v, %v", e, text(a))
		}
		return a
	}
}

// float hands on a float that may not be refused.
func float(t *testing.T) func(x float64, e api.Errno) float64 {
	return func(x float64, e api.Errno) float64 {
		t.Helper()
		if e != api.OK {
			t.Fatalf("answered %v, %v", e, x)
		}
		return x
	}
}

// exact is the fraction that a float must be.
func exact(t *testing.T, x float64) api.Ratio { t.Helper(); return must(t)(real.Exact(x)) }

// text tells of a fraction what a fault's line can hold.
func text(a api.Ratio) string {
	s, e := ratio.Print(a)
	if e != api.OK {
		return e.Error()
	}
	return s[:min(len(s), 100)]
}

// endless are what is not finite, a NaN of other bits among them.
func endless() []float64 {
	return []float64{math.NaN(), math.Inf(1), math.Inf(-1), math.Float64frombits(0xFFF0000000000001), math.Float64frombits(0x7FFFFFFFFFFFFFFF)}
}

// edges are floats at which signs, units and bits end.
func edges() (l []float64) {
	for _, x := range []float64{
		0, least, 2 * least, 3 * least, 0x1p-1022, 0x1p-1022 - least, 0x1p-1022 + least, 0x1p-1021, 0x1p-1021 - least, 0x1p-1021 + 2*least, 0x1p-537, 0x1p-500, 0x1p-60, 0x1p-53, 0x1p-52, 0.1, 0.5, 1 - 0x1p-53, 1, 1 + 0x1p-52, 1.5, 2 - 0x1p-52, 2, 3,
		1 / 3.0, math.Pi, 1<<31 - 1, 1 << 32, 1<<53 - 1, 1 << 53, 1<<53 + 2, 1 << 63, 1 << 64, 1e22, 1e300, 0x1p500, 0x1p970, 0x1p971, 0x1p1000, 0x1p1023 - 0x1p970, 0x1p1023, 0x1p1023 + 0x1p971, greatest - 0x1p971, greatest,
	} {
		l = append(l, x, -x)
	}
	return append(l, math.Copysign(0, -1))
}

// wrongCase is a fraction that may not be, and its error.
type wrongCase struct {
	a    api.Ratio
	want api.Errno
}

// wrong are fractions that may not be.
func wrong() map[string]wrongCase {
	return map[string]wrongCase{
		"a Num too long":           {api.Ratio{Num: full(2049, 1), Den: list(1)}, api.ErrLong},
		"a Den too long":           {api.Ratio{Neg: true, Num: list(1), Den: full(2049, 1)}, api.ErrLong},
		"too long and nought":      {api.Ratio{Neg: true, Num: full(2049, 0)}, api.ErrLong},
		"nothing":                  {api.Ratio{}, api.ErrNormal},
		"over nothing":             {api.Ratio{Num: list(1)}, api.ErrNormal},
		"over a nought":            {api.Ratio{Num: list(1), Den: []uint32{0}}, api.ErrNormal},
		"0 that is Neg":            {api.Ratio{Neg: true, Den: list(1)}, api.ErrNormal},
		"0 over 2":                 {api.Ratio{Den: list(2)}, api.ErrNormal},
		"a nought over 1":          {api.Ratio{Num: []uint32{0}, Den: list(1)}, api.ErrNormal},
		"2 over 4":                 {api.Ratio{Num: list(2), Den: list(4)}, api.ErrNormal},
		"a rough Num":              {api.Ratio{Num: []uint32{1, 0}, Den: list(2)}, api.ErrNormal},
		"a rough Den":              {api.Ratio{Num: list(1), Den: []uint32{2, 0}}, api.ErrNormal},
		"in common, far too great": {api.Ratio{Num: full(2000, 6), Den: list(3)}, api.ErrNormal},
	}
}

// dice is a source of numbers that is the same at each run.
type dice uint64

func (d *dice) next() uint64 {
	*d = *d*6364136223846793005 + 1442695040888963407
	x := uint64(*d)
	return x ^ x>>29
}

func (d *dice) below(k int) int { return int(d.next() >> 11 % uint64(k)) }

// float throws a finite float of any unit; in half of them most bits are alike.
func (d *dice) float() float64 {
	for {
		b := d.next()<<32 ^ d.next()
		if d.below(2) == 0 {
			b &^= (1<<52 - 1) >> d.below(53)
		}
		if d.below(4) == 0 {
			b |= 1<<d.below(53) - 1
		}
		if x := math.Float64frombits(b); !math.IsNaN(x) && !math.IsInf(x, 0) {
			return x
		}
	}
}

// near throws a float whose size is from 2^-low to 2^high.
func (d *dice) near(low, high int) float64 {
	x := math.Ldexp(float64(1<<52+d.next()>>12>>d.below(53)), d.below(high+low)-low-52)
	if d.below(2) == 0 {
		return -x
	}
	return x
}

// fraction throws a fraction of at most so many words.
func (d *dice) fraction(t *testing.T, words int) api.Ratio {
	t.Helper()
	l := [2]api.Ratio{q(0, 1), q(1, 1)}
	for i := range l {
		num := make([]uint32, 1+d.below(words))
		for j := range num {
			num[j] = uint32(d.next())
		}
		num[len(num)-1] |= 1
		l[i] = api.Ratio{Neg: d.below(2) == 0, Num: num, Den: list(1)}
	}
	return must(t)(ratio.Quo(l[0], l[1]))
}

package ratio_test

import (
	"math"
	"slices"
	"testing"

	"slackwater/api"
	"slackwater/ratio"
	"slackwater/whole"
)

// q writes the fraction n over d, d above 0, without calling what is tested.
func q(n, d int64) api.Ratio {
	size := sizeOf(n)
	common := greatestDivisor(size, uint64(d))
	return api.Ratio{Neg: n < 0, Num: list(size / common), Den: list(uint64(d) / common)}
}

// sizeOf is a number without its sign.
func sizeOf(x int64) uint64 {
	if x < 0 {
		return -uint64(x)
	}
	return uint64(x)
}

func greatestDivisor(a, b uint64) uint64 {
	for b != 0 {
		a, b = b, a%b
	}
	return a
}

// list writes the words of a number.
func list(x uint64) []uint32 { return trimmed(uint32(x), uint32(x>>32)) }

func trimmed(words ...uint32) []uint32 {
	for len(words) > 0 && words[len(words)-1] == 0 {
		words = words[:len(words)-1]
	}
	return words
}

// r writes a sign and two lists as they are.
func r(neg bool, num, den []uint32) api.Ratio { return api.Ratio{Neg: neg, Num: num, Den: den} }

// w writes a whole number.
func w(neg bool, words ...uint32) api.Whole { return api.Whole{Neg: neg, Words: words} }

// ints writes words as they are.
func ints(words ...uint32) []uint32 { return words }

// full is a list of so many words that are all x.
func full(words int, x uint32) []uint32 { return slices.Repeat([]uint32{x}, words) }

// two is 2^k.
func two(k int) []uint32 {
	words := make([]uint32, k/32+1)
	words[k/32] = 1 << (k % 32)
	return words
}

// plus is a list whose lowest word has x more, without a carry.
func plus(words []uint32, x uint32) []uint32 {
	words = slices.Clone(words)
	words[0] += x
	return words
}

// opposite is 0 less a fraction, in the same memory.
func opposite(a api.Ratio) api.Ratio {
	return api.Ratio{Neg: !a.Neg && len(a.Num) > 0, Num: a.Num, Den: a.Den}
}

// same holds fractions against each other; a list that is nil and an empty one are the same.
func same(a, b api.Ratio) bool {
	return a.Neg == b.Neg && slices.Equal(a.Num, b.Num) && slices.Equal(a.Den, b.Den)
}

// nothing tells whether an answer is the zero value.
func nothing(a api.Ratio) bool { return !a.Neg && len(a.Num) == 0 && len(a.Den) == 0 }

// oneForm tells whether a fraction is in its one form and not too long, by what whole tells.
func oneForm(a api.Ratio) bool {
	if len(a.Den) == 0 || a.Neg && len(a.Num) == 0 {
		return false
	}
	common, e := whole.Gcd(w(false, a.Num...), w(false, a.Den...))
	return e == api.OK && slices.Equal(common.Words, ints(1))
}

// must hands on an answer that may not be refused and must be in its one form.
func must(t *testing.T) func(a api.Ratio, e api.Errno) api.Ratio {
	return func(a api.Ratio, e api.Errno) api.Ratio {
		t.Helper()
		if e != api.OK || !oneForm(a) {
			t.Fatalf("answered %v, Neg %v, %d over %d words", e, a.Neg, len(a.Num), len(a.Den))
		}
		return a
	}
}

// mustWhole hands on a whole number that may not be refused.
func mustWhole(t *testing.T) func(a api.Whole, e api.Errno) api.Whole {
	return func(a api.Whole, e api.Errno) api.Whole {
		t.Helper()
		if e != api.OK {
			t.Fatalf("answered %v", e)
		}
		return a
	}
}

// refused looks whether an answer is this error, and nothing beside it.
func refused(t *testing.T, what string, a api.Ratio, e, want api.Errno) {
	t.Helper()
	if e != want || !nothing(a) {
		t.Errorf("%s: %v, Neg %v, %d over %d words, not %v alone", what, e, a.Neg, len(a.Num), len(a.Den), want)
	}
}

// total hands out what Sum tells of a list as the calls of one or two do.
func total(l ...api.Ratio) (api.Ratio, api.Errno) {
	s, f := ratio.Sum(l)
	return s, f.Err
}

// ofTwo are the calls that tell a fraction of two.
func ofTwo() map[string]func(a, b api.Ratio) (api.Ratio, api.Errno) {
	return map[string]func(a, b api.Ratio) (api.Ratio, api.Errno){
		"Add": ratio.Add, "Sub": ratio.Sub, "Mul": ratio.Mul, "Quo": ratio.Quo, "Sum": func(a, b api.Ratio) (api.Ratio, api.Errno) { return total(a, b) },
	}
}

// ofOne are the calls that tell a fraction of one.
func ofOne() map[string]func(a api.Ratio) (api.Ratio, api.Errno) {
	return map[string]func(a api.Ratio) (api.Ratio, api.Errno){
		"Neg": ratio.Neg, "Sum": func(a api.Ratio) (api.Ratio, api.Errno) { return total(a) },
	}
}

// wrongCase is a fraction that may not be, and its error.
type wrongCase struct {
	a    api.Ratio
	want api.Errno
}

// wrong are fractions that may not be.
func wrong() map[string]wrongCase {
	return map[string]wrongCase{
		"a Num too long":              {r(false, full(2049, 1), ints(1)), api.ErrLong},
		"a Den too long":              {r(true, ints(1), full(2049, 1)), api.ErrLong},
		"both too long, for nat too":  {r(false, full(8193, 1), full(8193, 1)), api.ErrLong},
		"too long and nought":         {r(true, full(2049, 0), nil), api.ErrLong},
		"a rough Num, a Den too long": {r(false, ints(1, 0), full(2049, 0)), api.ErrLong},
		"nothing":                     {api.Ratio{}, api.ErrNormal},
		"over nothing":                {r(false, ints(1), nil), api.ErrNormal},
		"many over nothing":           {r(true, ints(1, 2, 3), ints()), api.ErrNormal},
		"over a nought":               {r(false, ints(1), ints(0)), api.ErrNormal},
		"0 that is Neg":               {r(true, nil, ints(1)), api.ErrNormal},
		"0 over 2":                    {r(false, nil, ints(2)), api.ErrNormal},
		"a nought over 1":             {r(false, ints(0), ints(1)), api.ErrNormal},
		"2 over 4":                    {r(false, ints(2), ints(4)), api.ErrNormal},
		"-2 over 2":                   {r(true, ints(2), ints(2)), api.ErrNormal},
		"a rough Num":                 {r(false, ints(1, 0), ints(2)), api.ErrNormal},
		"a rough Den":                 {r(false, ints(1), ints(2, 0)), api.ErrNormal},
		"long words in common":        {r(false, full(2048, 3), full(2046, 5)), api.ErrNormal},
	}
}

// edges are numbers at which signs, words and 64 bits end.
func edges() []int64 {
	return []int64{
		0, 1, -1, 2, -2, 3, -3, 4, 6, -9, 10, 12, -18, 100, math.MaxInt32, math.MinInt32, math.MaxUint32, -math.MaxUint32, 1 << 32, -1 << 32,
		1<<32 + 2, 1 << 62, -1 << 62, math.MaxInt64 - 1, math.MaxInt64, math.MinInt64 + 1, math.MinInt64,
	}
}

// smalls are fractions in their one form whose Num and Den are small.
func smalls() []api.Ratio {
	return []api.Ratio{
		q(0, 1), q(1, 1), q(-1, 1), q(1, 2), q(-1, 2), q(2, 3), q(-3, 2), q(5, 6), q(-7, 12), q(1<<40, 3), q(-5, 1<<40), r(true, ints(1, 2, 3), ints(0, 0, 0, 1)), r(false, ints(9, 9, 9, 9), ints(2, 5)),
	}
}

// dice is a source of numbers that is the same at each run.
type dice uint64

func (d *dice) next() uint64 {
	*d = *d*6364136223846793005 + 1442695040888963407
	x := uint64(*d)
	return x ^ x>>29
}

func (d *dice) below(k int) int { return int(d.next() >> 11 % uint64(k)) }

// number throws a whole number of at most so many words; in half of them the words are such as are carried and borrowed.
func (d *dice) number(words int) api.Whole {
	extremes := []uint32{0, 0, 1, 1<<31 - 1, 1 << 31, 1<<32 - 2, 1<<32 - 1, 1<<32 - 1}
	size := make([]uint32, d.below(words+1))
	plain := d.below(2) == 0
	for i := range size {
		size[i] = extremes[d.below(len(extremes))]
		if plain {
			size[i] = uint32(d.next())
		}
	}
	size = trimmed(size...)
	return api.Whole{Neg: d.below(2) == 0 && len(size) > 0, Words: size}
}

// fraction throws a fraction; in two of three both lists hold small divisors, so that sums and products have much in common.
func (d *dice) fraction(t *testing.T, words int) api.Ratio {
	t.Helper()
	ok := mustWhole(t)
	num, den := d.number(words), d.number(words)
	if d.below(3) > 0 {
		num = ok(whole.Mul(num, whole.Of(int64(1+d.below(60)))))
		den = ok(whole.Mul(whole.Of(int64(1+d.below(60)*7)), whole.Of(int64(1+d.below(5040)))))
	}
	if len(den.Words) == 0 {
		den = whole.Of(1)
	}
	return must(t)(ratio.Make(num, den))
}

package gauss_test

import (
	"slices"
	"testing"

	"slackwater/api"
	"slackwater/gauss"
	"slackwater/ratio"
)

// q writes the fraction n over d, d above 0, without calling what is tested.
func q(n, d int64) api.Ratio {
	size := uint64(n)
	if n < 0 {
		size = -size
	}
	common := greatestDivisor(size, uint64(d))
	return api.Ratio{Neg: n < 0, Num: list(size / common), Den: list(uint64(d) / common)}
}

func greatestDivisor(a, b uint64) uint64 {
	for b != 0 {
		a, b = b, a%b
	}
	return a
}

// list writes the words of a number.
func list(x uint64) []uint32 { return trimmed(uint32(x), uint32(x>>32)) }

func trimmed(words ...uint32) []uint32 {
	for len(words) > 0 && words[len(words)-1] == 0 {
		words = words[:len(words)-1]
	}
	return words
}

// z writes a number of two whole parts.
func z(re, im int64) api.Gauss { return api.Gauss{Re: q(re, 1), Im: q(im, 1)} }

// g writes a number of two parts.
func g(re, im api.Ratio) api.Gauss { return api.Gauss{Re: re, Im: im} }

// r writes a sign and two lists as they are.
func r(neg bool, num, den []uint32) api.Ratio { return api.Ratio{Neg: neg, Num: num, Den: den} }

// ints writes words as they are.
func ints(words ...uint32) []uint32 { return words }

// full is a list of so many words that are all x.
func full(words int, x uint32) []uint32 { return slices.Repeat([]uint32{x}, words) }

// two is 2^k.
func two(k int) []uint32 {
	words := make([]uint32, k/32+1)
	words[k/32] = 1 << (k % 32)
	return words
}

// plus is a list whose lowest word has x more, without a carry.
func plus(words []uint32, x uint32) []uint32 {
	words = slices.Clone(words)
	words[0] += x
	return words
}

// power is 2^k as a fraction, below is 2^k less 1, above 2^k and 1; small is 1 over 2^k.
func power(k int) api.Ratio { return r(false, two(k), ints(1)) }

func below(k int) api.Ratio {
	return r(false, trimmed(append(full(k/32, 1<<32-1), 1<<(k%32)-1)...), ints(1))
}

func above(k int) api.Ratio { return r(false, plus(two(k), 1), ints(1)) }

func small(k int) api.Ratio { return r(false, ints(1), two(k)) }

// opposite is 0 less a fraction, in the same memory.
func opposite(a api.Ratio) api.Ratio {
	return api.Ratio{Neg: !a.Neg && len(a.Num) > 0, Num: a.Num, Den: a.Den}
}

// same holds numbers against each other; a list that is nil and an empty one are the same.
func same(a, b api.Gauss) bool { return sameRatio(a.Re, b.Re) && sameRatio(a.Im, b.Im) }

func sameRatio(a, b api.Ratio) bool {
	return a.Neg == b.Neg && slices.Equal(a.Num, b.Num) && slices.Equal(a.Den, b.Den)
}

// nothing tells whether an answer is the zero value.
func nothing(a api.Gauss) bool { return noRatio(a.Re) && noRatio(a.Im) }

func noRatio(a api.Ratio) bool { return !a.Neg && len(a.Num) == 0 && len(a.Den) == 0 }

// must hands on an answer that may not be refused and must be in its one form.
func must(t *testing.T) func(a api.Gauss, e api.Errno) api.Gauss {
	return func(a api.Gauss, e api.Errno) api.Gauss {
		t.Helper()
		if e != api.OK || ratio.Check(a.Re) != api.OK || ratio.Check(a.Im) != api.OK {
			t.Fatalf("answered %v, %s", e, sizes(a))
		}
		return a
	}
}

// mustRatio hands on a fraction likewise.
func mustRatio(t *testing.T) func(a api.Ratio, e api.Errno) api.Ratio {
	return func(a api.Ratio, e api.Errno) api.Ratio {
		t.Helper()
		if e != api.OK || ratio.Check(a) != api.OK {
			t.Fatalf("answered %v, %d over %d words", e, len(a.Num), len(a.Den))
		}
		return a
	}
}

// sizes tells of a number what a fault's line can hold.
func sizes(a api.Gauss) string {
	text := ""
	for _, words := range [][]uint32{a.Re.Num, a.Re.Den, a.Im.Num, a.Im.Den} {
		for _, w := range words[:min(len(words), 3)] {
			text += decimal(uint64(w)) + " "
		}
		text += "(" + decimal(uint64(len(words))) + " words) "
	}
	return text
}

func decimal(x uint64) string {
	s, _ := ratio.Print(r(false, list(x), ints(1)))
	return s
}

// refused looks whether an answer is this error, and nothing beside it.
func refused(t *testing.T, what string, a api.Gauss, e, want api.Errno) {
	t.Helper()
	if e != want || !nothing(a) {
		t.Errorf("%s: %v, %s, not %v alone", what, e, sizes(a), want)
	}
}

// ofTwo are the calls that tell a number of two.
func ofTwo() map[string]func(a, b api.Gauss) (api.Gauss, api.Errno) {
	return map[string]func(a, b api.Gauss) (api.Gauss, api.Errno){
		"Add": gauss.Add, "Sub": gauss.Sub, "Mul": gauss.Mul, "Quo": gauss.Quo,
	}
}

// ofOne are the calls that tell a number of one; a fraction that is told stands in Re.
func ofOne() map[string]func(a api.Gauss) (api.Gauss, api.Errno) {
	return map[string]func(a api.Gauss) (api.Gauss, api.Errno){
		"Conj": gauss.Conj, "Neg": gauss.Neg,
		"Norm": func(a api.Gauss) (api.Gauss, api.Errno) {
			n, e := gauss.Norm(a)
			return api.Gauss{Re: n}, e
		},
		"Scale by 2":   func(a api.Gauss) (api.Gauss, api.Errno) { return gauss.Scale(q(2, 1), a) },
		"Scale by 0":   func(a api.Gauss) (api.Gauss, api.Errno) { return gauss.Scale(q(0, 1), a) },
		"Scale by 1":   func(a api.Gauss) (api.Gauss, api.Errno) { return gauss.Scale(q(1, 1), a) },
		"Scale by -½":  func(a api.Gauss) (api.Gauss, api.Errno) { return gauss.Scale(q(-1, 2), a) },
		"Add of twice": func(a api.Gauss) (api.Gauss, api.Errno) { return gauss.Add(a, a) },
		"Mul of twice": func(a api.Gauss) (api.Gauss, api.Errno) { return gauss.Mul(a, a) },
	}
}

// wrongCase is a fraction that may not be, and its error.
type wrongCase struct {
	a    api.Ratio
	want api.Errno
}

// wrong are fractions that may not be.
func wrong() map[string]wrongCase {
	return map[string]wrongCase{
		"a Num too long":              {r(false, full(2049, 1), ints(1)), api.ErrLong},
		"a Den too long":              {r(true, ints(1), full(2049, 1)), api.ErrLong},
		"too long and nought":         {r(true, full(2049, 0), nil), api.ErrLong},
		"a rough Num, a Den too long": {r(false, ints(1, 0), full(2049, 0)), api.ErrLong},
		"nothing":                     {api.Ratio{}, api.ErrNormal},
		"over nothing":                {r(false, ints(1), nil), api.ErrNormal},
		"over a nought":               {r(false, ints(1), ints(0)), api.ErrNormal},
		"0 that is Neg":               {r(true, nil, ints(1)), api.ErrNormal},
		"0 over 2":                    {r(false, nil, ints(2)), api.ErrNormal},
		"a nought over 1":             {r(false, ints(0), ints(1)), api.ErrNormal},
		"2 over 4":                    {r(false, ints(2), ints(4)), api.ErrNormal},
		"a rough Num":                 {r(false, ints(1, 0), ints(2)), api.ErrNormal},
		"a rough Den":                 {r(false, ints(1), ints(2, 0)), api.ErrNormal},
	}
}

// wrongNumber is a number that may not be, and its error.
type wrongNumber struct {
	a    api.Gauss
	want api.Errno
}

// wrongNumbers have a wrong part, or two of which the first one's error counts.
func wrongNumbers() map[string]wrongNumber {
	numbers := map[string]wrongNumber{}
	long, rough := r(false, full(2049, 1), ints(1)), r(false, ints(2), ints(4))
	for name, c := range wrong() {
		numbers["Re "+name] = wrongNumber{g(c.a, q(0, 1)), c.want}
		numbers["Im "+name] = wrongNumber{g(q(-3, 2), c.a), c.want}
		numbers["Re "+name+", Im too long"] = wrongNumber{g(c.a, long), c.want}
		numbers["Re "+name+", Im rough"] = wrongNumber{g(c.a, rough), c.want}
	}
	numbers["nothing at all"] = wrongNumber{api.Gauss{}, api.ErrNormal}
	return numbers
}

// smalls are numbers whose parts are small or of a few words.
func smalls() []api.Gauss {
	return []api.Gauss{
		z(0, 0), z(1, 0), z(-1, 0), z(0, 1), z(0, -1), z(1, 2), z(3, -1), z(-4, -7), g(q(1, 2), q(0, 1)), g(q(3, 5), q(4, 5)), g(q(-7, 25), q(24, 25)), g(q(0, 1), q(-5, 3)),
		g(r(true, ints(1, 2, 3), ints(0, 0, 0, 1)), q(1<<40, 3)), g(q(-5, 1<<40), r(false, ints(9, 9, 9, 9), ints(2, 5))),
	}
}

// dice is a source of numbers that is the same at each run.
type dice uint64

func (d *dice) next() uint64 {
	*d = *d*6364136223846793005 + 1442695040888963407
	x := uint64(*d)
	return x ^ x>>29
}

func (d *dice) below(k int) int { return int(d.next() >> 11 % uint64(k)) }

// size throws a natural number of at most so many words.
func (d *dice) size(words int) []uint32 {
	extremes := []uint32{0, 0, 1, 1<<31 - 1, 1 << 31, 1<<32 - 2, 1<<32 - 1, 1<<32 - 1}
	size := make([]uint32, d.below(words+1))
	plain := d.below(2) == 0
	for i := range size {
		size[i] = extremes[d.below(len(extremes))]
		if plain {
			size[i] = uint32(d.next())
		}
	}
	return trimmed(size...)
}

// fraction throws a fraction; in one of two the denominator is small, so that sums and products have much in common.
func (d *dice) fraction(t *testing.T, words int) api.Ratio {
	t.Helper()
	num, den := d.size(words), d.size(words)
	if d.below(2) == 0 || len(den) == 0 {
		den = list(uint64(1 + d.below(5040)))
	}
	above, below := api.Whole{Neg: d.below(2) == 0 && len(num) > 0, Words: num}, api.Whole{Words: den}
	return mustRatio(t)(ratio.Make(above, below))
}

// number throws a number; one of four has a part that is 0.
func (d *dice) number(t *testing.T, words int) api.Gauss {
	t.Helper()
	a := g(d.fraction(t, words), d.fraction(t, words))
	switch d.below(8) {
	case 0:
		a.Re = q(0, 1)
	case 1:
		a.Im = q(0, 1)
	}
	return a
}

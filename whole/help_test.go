package whole_test

import (
	"math"
	"slices"
	"testing"

	"slackwater/api"
	"slackwater/whole"
)

// n writes a number that goes into 64 bits, without calling what is tested.
func n(x int64) api.Whole {
	size := uint64(x)
	if x < 0 {
		size = -size
	}
	return trimmed(x < 0, uint32(size), uint32(size>>32))
}

// trimmed writes a number in its one form.
func trimmed(neg bool, words ...uint32) api.Whole {
	for len(words) > 0 && words[len(words)-1] == 0 {
		words = words[:len(words)-1]
	}
	return api.Whole{Neg: neg && len(words) > 0, Words: words}
}

// w writes a sign and words as they are.
func w(neg bool, words ...uint32) api.Whole { return api.Whole{Neg: neg, Words: words} }

// full is a number of so many words that are all x.
func full(neg bool, words int, x uint32) api.Whole {
	return api.Whole{Neg: neg, Words: slices.Repeat([]uint32{x}, words)}
}

// powerOfTwo is 2^k, or 0 less that.
func powerOfTwo(neg bool, k int) api.Whole {
	words := make([]uint32, k/32+1)
	words[k/32] = 1 << (k % 32)
	return api.Whole{Neg: neg, Words: words}
}

// opposite is 0 less a number, in the same memory.
func opposite(a api.Whole) api.Whole {
	return api.Whole{Neg: !a.Neg && len(a.Words) > 0, Words: a.Words}
}

// same holds numbers against each other; a list that is nil and an empty one are the same.
func same(a, b api.Whole) bool { return a.Neg == b.Neg && slices.Equal(a.Words, b.Words) }

// nothing tells whether an answer is the zero value.
func nothing(a api.Whole) bool { return !a.Neg && len(a.Words) == 0 }

// oneForm tells whether a number is in its one form and not too long.
func oneForm(a api.Whole) bool {
	words := len(a.Words)
	if words == 0 {
		return !a.Neg
	}
	return a.Words[words-1] != 0 && words <= 2048
}

// must hands on an answer that may not be refused and must be in its one form.
func must(t *testing.T) func(a api.Whole, e api.Errno) api.Whole {
	return func(a api.Whole, e api.Errno) api.Whole {
		t.Helper()
		if e != api.OK || !oneForm(a) {
			t.Fatalf("answered %v, Neg %v, %d words", e, a.Neg, len(a.Words))
		}
		return a
	}
}

// refused looks whether an answer is this error, and nothing beside it.
func refused(t *testing.T, what string, a api.Whole, e, want api.Errno) {
	t.Helper()
	if e != want || !nothing(a) {
		t.Errorf("%s: %v, Neg %v, %d words, not %v alone", what, e, a.Neg, len(a.Words), want)
	}
}

// quotient and rest hand out one of DivMod's two numbers.
func quotient(a, b api.Whole) (api.Whole, api.Errno) {
	q, _, e := whole.DivMod(a, b)
	return q, e
}

func rest(a, b api.Whole) (api.Whole, api.Errno) {
	_, r, e := whole.DivMod(a, b)
	return r, e
}

// ofTwo are the calls that tell a number of two.
func ofTwo() map[string]func(a, b api.Whole) (api.Whole, api.Errno) {
	return map[string]func(a, b api.Whole) (api.Whole, api.Errno){
		"Add": whole.Add, "Sub": whole.Sub, "Mul": whole.Mul, "DivMod's first": quotient, "DivMod's second": rest, "Gcd": whole.Gcd,
	}
}

// ofOne are the calls that tell a number of one.
func ofOne() map[string]func(a api.Whole) (api.Whole, api.Errno) {
	powerOf := func(k int) func(a api.Whole) (api.Whole, api.Errno) {
		return func(a api.Whole) (api.Whole, api.Errno) { return whole.Power(a, k) }
	}
	return map[string]func(a api.Whole) (api.Whole, api.Errno){
		"Neg": whole.Neg, "Abs": whole.Abs, "Power 0": powerOf(0), "Power 1": powerOf(1), "Power 2": powerOf(2), "Power -1": powerOf(-1), "Power 4,097": powerOf(4097),
	}
}

// edges are numbers at which signs, carries and 64 bits end.
func edges() []int64 {
	return []int64{
		0, 1, -1, 2, -2, 3, -3, 7, -7, 10, -10, 12, 18, math.MaxInt32, math.MinInt32, math.MaxUint32, -math.MaxUint32, 1 << 32, -1 << 32,
		1<<32 + 1, -1<<32 - 1, 1 << 62, -1 << 62, math.MaxInt64 - 1, math.MaxInt64, math.MinInt64 + 1, math.MinInt64,
	}
}

// dice is a source of numbers that is the same at each run.
type dice uint64

func (d *dice) next() uint64 {
	*d = *d*6364136223846793005 + 1442695040888963407
	x := uint64(*d)
	return x ^ x>>29
}

func (d *dice) below(k int) int { return int(d.next() >> 11 % uint64(k)) }

// number throws a number of at most so many words; in half of them the words are such as are carried and borrowed.
func (d *dice) number(words int) api.Whole {
	extremes := []uint32{0, 0, 1, 1<<31 - 1, 1 << 31, 1<<32 - 2, 1<<32 - 1, 1<<32 - 1}
	list := make([]uint32, d.below(words+1))
	plain := d.below(2) == 0
	for i := range list {
		list[i] = extremes[d.below(len(extremes))]
		if plain {
			list[i] = uint32(d.next())
		}
	}
	return trimmed(d.below(2) == 0, list...)
}

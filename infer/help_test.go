package infer_test

import (
	"math"
	"math/big"
	"slices"
	"strconv"
	"strings"
	"testing"

	"slackwater/api"
	"slackwater/gauss"
)

// q writes the fraction n over d, d above 0, without calling what is tested.
func q(n, d int64) api.Ratio { return fraction(big.NewRat(n, d)) }

// fraction writes one of the library's fractions.
func fraction(f *big.Rat) api.Ratio {
	return api.Ratio{Neg: f.Sign() < 0, Num: wordsOf(f.Num()), Den: wordsOf(f.Denom())}
}

func wordsOf(n *big.Int) []uint32 {
	rest, low := new(big.Int).Abs(n), big.NewInt(1<<32-1)
	var words []uint32
	for rest.Sign() != 0 {
		words = append(words, uint32(new(big.Int).And(rest, low).Uint64()))
		rest.Rsh(rest, 32)
	}
	return words
}

// g writes a number of two parts, z one of two whole ones, re and im one of which the other part is 0.
func g(re, im api.Ratio) api.Gauss { return api.Gauss{Re: re, Im: im} }

func z(x, y int64) api.Gauss { return g(q(x, 1), q(y, 1)) }

func re(a api.Ratio) api.Gauss { return g(a, q(0, 1)) }

func im(a api.Ratio) api.Gauss { return g(q(0, 1), a) }

// r writes a sign and two lists as they are, ints words.
func r(neg bool, num, den []uint32) api.Ratio { return api.Ratio{Neg: neg, Num: num, Den: den} }

func ints(words ...uint32) []uint32 { return words }

// o writes a rotor, tide a constituent, rule a rule.
func o(far, near int32) api.Rotor { return api.Rotor{Far: far, Near: near} }

func tide(name string, u api.Rotor, number api.Gauss) api.Tide {
	return api.Tide{Name: name, Rotor: u, Number: number}
}

func rule(from, name string, u api.Rotor, ratio api.Gauss) api.Rule {
	return api.Rule{From: from, Name: name, Rotor: u, Ratio: ratio}
}

func fault(e api.Errno, at int) api.Fault { return api.Fault{Err: e, At: at} }

// full is a list of so many words that are all x, two is 2 to the power k.
func full(words int, x uint32) []uint32 { return slices.Repeat([]uint32{x}, words) }

func two(k int) []uint32 { return append(make([]uint32, k/32), 1<<(k%32)) }

// wide and under are 2 to the power k, and 1 over it.
func wide(k int) api.Ratio { return r(false, two(k), ints(1)) }

func under(k int) api.Ratio { return r(false, ints(1), two(k)) }

// odd has nothing in common below with under.
func odd(words int) api.Ratio { return r(false, ints(1), full(words, 1<<32-1)) }

// eight are unlike rotors: the numbers of (1 3) and (1 -2) are i times and -1 times that of (2 1).
func eight() []api.Rotor {
	return []api.Rotor{o(2, 1), o(1, 3), o(1, -2), o(2, -1), o(3, 1), o(5, 4), o(1000, 999), o(999, -998)}
}

// widest are those below whose numbers the most stands.
func widest() []api.Rotor {
	return []api.Rotor{o(1000, 999), o(1000, -999), o(999, 1000), o(998, 999), o(999, -998), o(997, 1000), o(1000, -997), o(991, 1000)}
}

// many are so many constituents with names and rotors that are all unlike: T1 (2 1), T2 (3 1) and so on, with small numbers.
func many(k int) []api.Tide {
	var l []api.Tide
	for i := range k {
		l = append(l, tide("T"+strconv.Itoa(i+1), o(int32(i+2), 1), z(int64(i%7-3), int64(i%5-1))))
	}
	return l
}

// manyRules are rules that part T1 so many times: names and rotors are unlike all of many.
func manyRules(k int) []api.Rule {
	var l []api.Rule
	for i := range k {
		l = append(l, rule("T1", "N"+strconv.Itoa(i+1), o(int32(i+2), -1), z(int64(i%3), int64(i%2))))
	}
	return l
}

// read makes a number of its text.
func read(t *testing.T, s string) api.Gauss {
	t.Helper()
	a, e := gauss.Parse(s)
	if e != api.OK {
		t.Fatalf("%q: %v", s, e)
	}
	return a
}

// A list that is nil and an empty one are the same.

func sameRatio(a, b api.Ratio) bool {
	return a.Neg == b.Neg && slices.Equal(a.Num, b.Num) && slices.Equal(a.Den, b.Den)
}

func sameGauss(a, b api.Gauss) bool { return sameRatio(a.Re, b.Re) && sameRatio(a.Im, b.Im) }

func sameTide(a, b api.Tide) bool {
	return a.Name == b.Name && a.Rotor == b.Rotor && sameGauss(a.Number, b.Number)
}

func sameTides(a, b []api.Tide) bool { return slices.EqualFunc(a, b, sameTide) }

// noRotors may not be.
func noRotors() []api.Rotor {
	return []api.Rotor{o(0, 0), o(0, 1), o(1, 0), o(1, 1), o(1, -1), o(2, 4), o(6, -9), o(1001, 1), o(1, 1001), o(1, -1001), o(-8, 1), o(-2, -1), o(65538, 1), o(math.MinInt32, math.MaxInt32)}
}

// noNames are none.
func noNames() []string {
	return []string{"", "2M", "M 2", "m_2", "M\xc3\xa9", "M2\x00", strings.Repeat("A", 21)}
}

// wrongNumber is a complex fraction that may not be, and its error.
type wrongNumber struct {
	a    api.Gauss
	want api.Errno
}

// wrongNumbers are such in either part, and in both: the real one's error is told.
func wrongNumbers() map[string]wrongNumber {
	long, rough := r(false, full(2049, 1), ints(1)), r(false, ints(2), ints(4))
	numbers := map[string]wrongNumber{
		"Re rough, Im too long": {g(rough, long), api.ErrNormal},
		"Re too long, Im rough": {g(long, rough), api.ErrLong},
		"nothing":               {api.Gauss{}, api.ErrNormal},
		"-1, rough":             {g(r(true, ints(1, 0), ints(1)), q(0, 1)), api.ErrNormal},
		"-1, Im below 0":        {g(q(-1, 1), r(true, nil, ints(1))), api.ErrNormal},
	}
	for i, w := range []struct {
		a    api.Ratio
		want api.Errno
	}{
		{long, api.ErrLong}, {r(true, ints(1), full(2049, 1)), api.ErrLong}, {r(true, full(2049, 0), nil), api.ErrLong},
		{api.Ratio{}, api.ErrNormal}, {r(false, ints(1), ints(0)), api.ErrNormal}, {r(true, nil, ints(1)), api.ErrNormal}, {r(false, nil, ints(2)), api.ErrNormal},
		{rough, api.ErrNormal}, {r(false, ints(1, 0), ints(2)), api.ErrNormal}, {r(false, ints(1), ints(2, 0)), api.ErrNormal},
	} {
		numbers["Re "+strconv.Itoa(i)] = wrongNumber{g(w.a, q(1, 2)), w.want}
		numbers["Im "+strconv.Itoa(i)] = wrongNumber{g(q(-1, 2), w.a), w.want}
	}
	return numbers
}

// other is one that may not be, and has the other error.
func other(e api.Errno) api.Gauss {
	if e == api.ErrLong {
		return api.Gauss{}
	}
	return re(r(false, full(2049, 1), ints(1)))
}

// dice is a source of numbers that is the same at each run.
type dice uint64

func (d *dice) next() uint64 {
	*d = *d*6364136223846793005 + 1442695040888963407
	x := uint64(*d)
	return x ^ x>>29
}

func (d *dice) below(k int) int { return int(d.next() >> 11 % uint64(k)) }

// rotor throws one that may be: one of few, of some, or of all.
func (d *dice) rotor() api.Rotor {
	top := []int{3, 6, 1000}[d.below(3)]
	for {
		if u := o(int32(1+d.below(top)), int32(d.below(2*top+1)-top)); mayBe(u) {
			return u
		}
	}
}

// rotors throws so many unlike ones.
func (d *dice) rotors(k int) []api.Rotor {
	var l []api.Rotor
	for len(l) < k {
		if u := d.rotor(); !slices.Contains(l, u) {
			l = append(l, u)
		}
	}
	return l
}

// number throws a complex fraction of a few words, some with a part that is 0.
func (d *dice) number() api.Gauss { return g(d.fraction(), d.fraction()) }

func (d *dice) fraction() api.Ratio {
	num, den := new(big.Int), big.NewInt(1)
	for range d.below(4) {
		num.Add(num.Lsh(num, 31), big.NewInt(int64(d.below(1<<31))))
		den.Add(den.Lsh(den, 31), big.NewInt(int64(d.below(1<<31))))
	}
	if d.below(2) == 0 {
		num.Neg(num)
	}
	return fraction(new(big.Rat).SetFrac(num, den))
}

// long throws a number with long parts.
func (d *dice) long() api.Gauss {
	part := func() api.Ratio {
		switch k := d.below(66000); d.below(6) {
		case 0:
			return wide(min(k, 65535))
		case 1:
			return under(min(k, 65535))
		case 2:
			return r(true, ints(1), full(1+k/33, 1<<32-1))
		case 3:
			return r(false, full(1+k/33, 1<<32-1), two(min(k, 65535)))
		}
		return d.fraction()
	}
	return g(part(), part())
}

package shallow_test

import (
	"math"
	"math/big"
	"slices"
	"strconv"
	"strings"
	"testing"

	"slackwater/api"
	"slackwater/gauss"
	"slackwater/shallow"
)

// q writes the fraction n over d, d above 0, without calling what is tested.
func q(n, d int64) api.Ratio { return fraction(big.NewRat(n, d)) }

// fraction writes one of the library's fractions.
func fraction(f *big.Rat) api.Ratio {
	return api.Ratio{Neg: f.Sign() < 0, Num: wordsOf(f.Num()), Den: wordsOf(f.Denom())}
}

func wordsOf(n *big.Int) []uint32 {
	rest, low := new(big.Int).Abs(n), big.NewInt(1<<32-1)
	var words []uint32
	for rest.Sign() != 0 {
		words = append(words, uint32(new(big.Int).And(rest, low).Uint64()))
		rest.Rsh(rest, 32)
	}
	return words
}

// g writes a number of two parts, z one of two whole parts.
func g(re, im api.Ratio) api.Gauss { return api.Gauss{Re: re, Im: im} }

func z(re, im int64) api.Gauss { return g(q(re, 1), q(im, 1)) }

// r writes a sign and two lists as they are.
func r(neg bool, num, den []uint32) api.Ratio { return api.Ratio{Neg: neg, Num: num, Den: den} }

// ints writes words as they are.
func ints(words ...uint32) []uint32 { return words }

// full is a list of so many words that are all x.
func full(words int, x uint32) []uint32 { return slices.Repeat([]uint32{x}, words) }

// two is 2 to the power k; power the fraction, k below 0 too.
func two(k int) []uint32 { return append(make([]uint32, k/32), 1<<(k%32)) }

func power(k int) api.Ratio {
	if k < 0 {
		return r(false, ints(1), two(-k))
	}
	return r(false, two(k), ints(1))
}

// opposite is the fraction with the other sign.
func opposite(a api.Ratio) api.Ratio {
	a.Neg = !a.Neg && len(a.Num) > 0
	return a
}

// turned is the conjugate of a number.
func turned(a api.Gauss) api.Gauss { return g(a.Re, opposite(a.Im)) }

// c writes a constituent.
func c(name string, far, near int32, number api.Gauss) api.Tide {
	return api.Tide{Name: name, Rotor: api.Rotor{Far: far, Near: near}, Number: number}
}

// o writes a round.
func o(unit, number api.Gauss) api.Round { return api.Round{Unit: unit, Number: number} }

// read makes rounds of lines such as 3/5 4/5 by 1 0: the Unit, then the Number.
func read(t *testing.T, lines ...string) []api.Round {
	t.Helper()
	var l []api.Round
	for _, s := range lines {
		unit, number, ok := strings.Cut(s, " by ")
		if !ok {
			t.Fatalf("%q", s)
		}
		l = append(l, o(parse(t, unit), parse(t, number)))
	}
	return l
}

func parse(t *testing.T, s string) api.Gauss {
	t.Helper()
	a, e := gauss.Parse(s)
	if e != api.OK {
		t.Fatalf("%q: %v", s, e)
	}
	return a
}

// circle is the number of size 1 that p and q make: (p + i q) squared over the sum of their squares.
func circle(p, q *big.Int) api.Gauss {
	times := func(a, b *big.Int) *big.Int { return new(big.Int).Mul(a, b) }
	norm := new(big.Int).Add(times(p, p), times(q, q))
	re := new(big.Rat).SetFrac(new(big.Int).Sub(times(p, p), times(q, q)), norm)
	im := new(big.Rat).SetFrac(times(big.NewInt(2), times(p, q)), norm)
	return g(fraction(re), fraction(im))
}

func unit(p, q int64) api.Gauss { return circle(big.NewInt(p), big.NewInt(q)) }

// longUnit has a Den of k bits, just below 2^k, k even.
func longUnit(k int) api.Gauss {
	p := new(big.Int).Lsh(big.NewInt(1), uint(k/2))
	return circle(p.Sub(p, big.NewInt(2)), big.NewInt(1))
}

// overUnit has the Den 2^k and 1, k even.
func overUnit(k int) api.Gauss {
	return circle(new(big.Int).Lsh(big.NewInt(1), uint(k/2)), big.NewInt(1))
}

// units are so many unlike numbers of size 1, no two of which have a product that two others have.
func units(k int) []api.Gauss {
	var l []api.Gauss
	for far := int64(2); len(l) < k; far++ {
		// Far and i have a square of size that is a prime by itself: no one product is two.
		if big.NewInt(far*far + 1).ProbablyPrime(20) {
			l = append(l, unit(far, 1))
		}
	}
	return l
}

// many are rounds with these Units and small Numbers.
func many(l []api.Gauss) []api.Round {
	var rounds []api.Round
	for i, u := range l {
		rounds = append(rounds, o(u, z(int64(i), 1)))
	}
	return rounds
}

// overs are 1 over numbers of 1,300 words that have nothing in common: the sum of two is too long.
func overs() (first, second api.Ratio) {
	return r(false, ints(1), two(32*1299+7)), r(false, ints(1), full(1300, 1<<32-1))
}

// beyond are no ticks.
func beyond() []int {
	return []int{-1, -2, -1024, -1025, 1025, 1026, 2048, 1 << 20, 1 << 32, -1 << 32, 1<<32 + 1, math.MaxInt, math.MinInt}
}

// A list that is nil and an empty one are the same.

func sameRatio(a, b api.Ratio) bool {
	return a.Neg == b.Neg && slices.Equal(a.Num, b.Num) && slices.Equal(a.Den, b.Den)
}

func sameGauss(a, b api.Gauss) bool { return sameRatio(a.Re, b.Re) && sameRatio(a.Im, b.Im) }

func sameRound(a, b api.Round) bool {
	return sameGauss(a.Unit, b.Unit) && sameGauss(a.Number, b.Number)
}

func same(a, b []api.Round) bool { return slices.EqualFunc(a, b, sameRound) }

// at writes a fault.
func at(e api.Errno, place int) api.Fault { return api.Fault{Err: e, At: place} }

// must hands on rounds that may not be refused, mustOne a number.
func must(t *testing.T) func(l []api.Round, f api.Fault) []api.Round {
	return func(l []api.Round, f api.Fault) []api.Round {
		t.Helper()
		if f != (api.Fault{}) {
			t.Fatalf("answered %v at %d, %d rounds", f.Err, f.At, len(l))
		}
		for i, x := range l {
			if gauss.Check(x.Unit) != api.OK || gauss.Check(x.Number) != api.OK {
				t.Fatalf("the round %d is not in its one form", i)
			}
		}
		return l
	}
}

func mustOne(t *testing.T) func(a api.Gauss, f api.Fault) api.Gauss {
	return func(a api.Gauss, f api.Fault) api.Gauss {
		t.Helper()
		if f != (api.Fault{}) || gauss.Check(a) != api.OK {
			t.Fatalf("answered %v at %d", f.Err, f.At)
		}
		return a
	}
}

// refused looks whether an answer is this fault, and nothing beside it; refusedAt so at a number.
func refused(t *testing.T, what string, want api.Fault) func(l []api.Round, f api.Fault) {
	return func(l []api.Round, f api.Fault) {
		t.Helper()
		if f != want || len(l) > 0 {
			t.Errorf("%s: %v at %d, %d rounds, not %v at %d alone", what, f.Err, f.At, len(l), want.Err, want.At)
		}
	}
}

func refusedAt(t *testing.T, what string, l []api.Round, tick int, want api.Fault) {
	t.Helper()
	if a, f := shallow.At(l, tick); f != want || !sameGauss(a, api.Gauss{}) {
		t.Errorf("At %d, %s: %v at %d, not %v at %d alone", tick, what, f.Err, f.At, want.Err, want.At)
	}
}

// wrongRatio is a fraction that may not be, and its error.
type wrongRatio struct {
	a    api.Ratio
	want api.Errno
}

func wrongRatios() map[string]wrongRatio {
	return map[string]wrongRatio{
		"a Num too long":      {r(false, full(2049, 1), ints(1)), api.ErrLong},
		"a Den too long":      {r(true, ints(1), full(2049, 1)), api.ErrLong},
		"too long and nought": {r(true, full(2049, 0), nil), api.ErrLong},
		"nothing":             {api.Ratio{}, api.ErrNormal},
		"over a nought":       {r(false, ints(1), ints(0)), api.ErrNormal},
		"0 that is Neg":       {r(true, nil, ints(1)), api.ErrNormal},
		"0 over 2":            {r(false, nil, ints(2)), api.ErrNormal},
		"2 over 4":            {r(false, ints(2), ints(4)), api.ErrNormal},
		"a rough Num":         {r(false, ints(1, 0), ints(2)), api.ErrNormal},
		"a rough Den":         {r(false, ints(1), ints(2, 0)), api.ErrNormal},
	}
}

// wrongRound is a round that may not be, and its error.
type wrongRound struct {
	a    api.Round
	want api.Errno
}

// wrongRounds have a fault, or several of which the first one counts.
func wrongRounds() map[string]wrongRound {
	u, one, nought := unit(2, 1), z(1, 0), q(0, 1)
	long, rough := r(false, full(2049, 1), ints(1)), r(false, ints(2), ints(4))
	coprime := [2]api.Ratio{r(false, ints(1), two(32*599)), r(false, ints(1), full(600, 1<<32-1))}
	rounds := map[string]wrongRound{
		"nothing at all":                {api.Round{}, api.ErrNormal},
		"Unit's Re and Im":              {o(g(rough, long), one), api.ErrNormal},
		"Unit and Number":               {o(g(q(1, 2), rough), g(long, long)), api.ErrNormal},
		"Number's Re and Im":            {o(u, g(rough, long)), api.ErrNormal},
		"Number, and a size of 1/2":     {o(g(q(1, 2), nought), g(q(1, 2), rough)), api.ErrNormal},
		"Number, and a Unit's square":   {o(g(power(40000), nought), g(rough, nought)), api.ErrNormal},
		"a Number too long, a size":     {o(z(2, 0), g(nought, long)), api.ErrLong},
		"the square of Re":              {o(g(power(32768), nought), one), api.ErrLong},
		"the square of Im":              {o(g(nought, power(32768)), one), api.ErrLong},
		"the square of Re's Den":        {o(g(power(-32768), nought), one), api.ErrLong},
		"the square of Im's Den":        {o(g(nought, power(-32768)), one), api.ErrLong},
		"both squares together":         {o(g(coprime[0], coprime[1]), one), api.ErrLong},
		"a size of 1, but the squares":  {o(overUnit(32768), one), api.ErrLong},
		"a size of 1, of 2,048 words":   {o(longUnit(65536), one), api.ErrLong},
		"the greatest square":           {o(g(r(false, full(1024, 1<<32-1), ints(1)), nought), one), api.ErrUnit},
		"nearly 1":                      {o(g(r(false, full(32, 1<<32-1), two(1024)), nought), one), api.ErrUnit},
		"nearly 1, by its Im":           {o(g(q(3, 5), q(1<<42-1, 5<<40)), one), api.ErrUnit},
		"a size of 1, and its Re twice": {o(g(q(6, 5), q(4, 5)), one), api.ErrUnit},
	}
	for i, a := range []api.Gauss{z(0, 0), z(2, 0), z(-2, 0), z(0, 2), z(1, 1), z(1, -1), g(q(1, 2), nought), g(nought, q(-1, 2)), g(q(1, 2), q(1, 2)), g(q(3, 5), q(3, 5)), g(q(4, 5), q(4, 5)), g(q(99, 100), nought), g(q(101, 100), nought)} {
		rounds["size "+strconv.Itoa(i)] = wrongRound{o(a, one), api.ErrUnit}
	}
	for key, w := range wrongRatios() {
		rounds["Unit's Re, "+key] = wrongRound{o(g(w.a, nought), one), w.want}
		rounds["Unit's Im, "+key] = wrongRound{o(g(q(1, 1), w.a), one), w.want}
		rounds["Number's Re, "+key] = wrongRound{o(u, g(w.a, nought)), w.want}
		rounds["Number's Im, "+key] = wrongRound{o(u, g(nought, w.a)), w.want}
	}
	return rounds
}

// wrongList is a list that may not be, and its fault.
type wrongList struct {
	l    []api.Round
	want api.Fault
}

// wrongLists have a wrong round at some place, with others behind it, or are too long.
func wrongLists() map[string]wrongList {
	lists := map[string]wrongList{}
	fine := many(units(64))
	for key, w := range wrongRounds() {
		lists[key+", alone"] = wrongList{[]api.Round{w.a}, at(w.want, 0)}
		lists[key+", ahead of others"] = wrongList{[]api.Round{fine[0], w.a, {}, o(z(2, 0), z(1, 0)), fine[0]}, at(w.want, 1)}
		lists[key+", behind one size"] = wrongList{[]api.Round{fine[0], fine[0], o(z(2, 0), z(1, 0)), w.a}, at(api.ErrUnit, 2)}
		lists[key+", at the end"] = wrongList{append(slices.Clone(fine[:63]), w.a), at(w.want, 63)}
		lists[key+", too many"] = wrongList{append([]api.Round{w.a}, fine...), at(api.ErrLong, -1)}
	}
	for _, k := range []int{65, 66, 128, 256 + 64, 1000} {
		lists["so many empty ones, "+strconv.Itoa(k)] = wrongList{make([]api.Round, k), at(api.ErrLong, -1)}
		lists["one so often, "+strconv.Itoa(k)] = wrongList{slices.Repeat(fine[:1], k), at(api.ErrLong, -1)}
	}
	return lists
}

// wrongTide is a constituent that may not be, and its error.
type wrongTide struct {
	a    api.Tide
	want api.Errno
}

// wrongTides have a fault, or several of which the first one counts.
func wrongTides() map[string]wrongTide {
	tides := map[string]wrongTide{
		"nothing at all":       {api.Tide{}, api.ErrName},
		"a name and all else":  {c("2x", 1, 1, api.Gauss{}), api.ErrName},
		"a rotor and a number": {c("W", 2, 4, api.Gauss{}), api.ErrRotor},
	}
	for i, name := range []string{"", " ", "1x", "Hu ll", "H-1", "H\n", "é", "H\xff", strings.Repeat("H", 21)} {
		tides["name "+strconv.Itoa(i)] = wrongTide{c(name, 8, 3, z(1, 0)), api.ErrName}
	}
	for i, x := range []api.Rotor{{}, {Near: 1}, {Far: 1}, {Far: 1, Near: 1}, {Far: 1, Near: -1}, {Far: 6, Near: -9}, {Far: 1001, Near: 1}, {Far: 1, Near: -1001}, {Far: -8, Near: 1}} {
		tides["rotor "+strconv.Itoa(i)] = wrongTide{c("W", x.Far, x.Near, z(1, 0)), api.ErrRotor}
	}
	for key, w := range wrongRatios() {
		tides["Re, "+key] = wrongTide{c("W", 8, 3, g(w.a, q(0, 1))), w.want}
		tides["Im, "+key] = wrongTide{c("W", 8, 3, g(q(0, 1), w.a)), w.want}
	}
	return tides
}

// dice is a source of numbers that is the same at each run.
type dice uint64

func (d *dice) next() uint64 {
	*d = *d*6364136223846793005 + 1442695040888963407
	x := uint64(*d)
	return x ^ x>>29
}

func (d *dice) below(k int) int { return int(d.next() >> 11 % uint64(k)) }

// fraction throws a fraction of a few words.
func (d *dice) fraction() api.Ratio {
	num, den := new(big.Int), big.NewInt(1)
	for range d.below(4) {
		num.Add(num.Lsh(num, 31), big.NewInt(int64(d.below(1<<31))))
		den.Add(den.Lsh(den, 31), big.NewInt(int64(d.below(1<<31))))
	}
	if d.below(2) == 0 {
		num.Neg(num)
	}
	return fraction(new(big.Rat).SetFrac(num, den))
}

// number throws a complex fraction.
func (d *dice) number() api.Gauss { return g(d.fraction(), d.fraction()) }

// unit throws a number of size 1, of few so that some come again; quarters of a turn and mirrored ones among them.
func (d *dice) unit() api.Gauss {
	pairs := [][2]int64{{1, 0}, {0, 1}, {1, 1}, {1, -1}, {2, 1}, {2, -1}, {1, 2}, {1, -2}, {3, 1}, {1, -3}, {3, 2}, {7, 4}, {1000, -999}}
	p := pairs[d.below(len(pairs))]
	return unit(p[0], p[1])
}

// rounds throws at most so many rounds.
func (d *dice) rounds(most int) []api.Round {
	var l []api.Round
	for range d.below(most + 1) {
		l = append(l, o(d.unit(), d.number()))
	}
	return l
}

// rotor throws a rotor that may be.
func (d *dice) rotor() api.Rotor {
	for {
		far, near := int64(1+d.below(1000)), int64(d.below(2001)-1000)
		size := max(near, -near)
		if near != 0 && far != size && new(big.Int).GCD(nil, nil, big.NewInt(far), big.NewInt(size)).Int64() == 1 {
			return api.Rotor{Far: int32(far), Near: int32(near)}
		}
	}
}

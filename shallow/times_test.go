package shallow_test

import (
	"math/big"
	"slices"
	"testing"

	"slackwater/api"
	"slackwater/gauss"
	"slackwater/shallow"
)

// powers are so many rounds whose Units are the powers of one from a first one on.
func powers(t *testing.T, u api.Gauss, first, k int) []api.Round {
	t.Helper()
	var l []api.Round
	by := z(1, 0)
	for i := range first + k {
		if i >= first {
			l = append(l, o(by, z(int64(i), -1)))
		}
		by = productOf(by, u)
	}
	return l
}

// P18.4
func TestTimes(t *testing.T) {
	m := read(t, "3/5 4/5 by 1 0")
	square := must(t)(shallow.Times(m, m))
	if !same(square, read(t, "-7/25 24/25 by 1 0")) {
		t.Errorf("Times of M and M: %v", square)
	}
	if got := mustOne(t)(shallow.At(square, 1)); !sameGauss(got, parse(t, "-7/25 24/25")) {
		t.Errorf("At 1 of M times M: %v", got)
	}
	for key, w := range map[string][3][]api.Round{
		"none":             {nil, {}, nil},
		"none ahead":       {nil, m, nil},
		"none behind":      {m, nil, nil},
		"still":            {m, read(t, "1 0 by 0 2"), read(t, "3/5 4/5 by 0 2")},
		"nought":           {m, read(t, "0 1 by 0 0"), read(t, "-4/5 3/5 by 0 0")},
		"a's first ahead":  {read(t, "3/5 4/5 by 1 2", "1 0 by 3 0"), read(t, "3/5 -4/5 by 1/2 0", "0 1 by 0 1"), read(t, "1 0 by 1/2 1", "-4/5 3/5 by -2 1", "3/5 -4/5 by 3/2 0", "0 1 by 0 3")},
		"b's first ahead":  {read(t, "3/5 -4/5 by 1/2 0", "0 1 by 0 1"), read(t, "3/5 4/5 by 1 2", "1 0 by 3 0"), read(t, "1 0 by 1/2 1", "3/5 -4/5 by 3/2 0", "-4/5 3/5 by -2 1", "0 1 by 0 3")},
		"a pair, squared":  {read(t, "3/5 4/5 by 1 1", "3/5 -4/5 by 1 -1"), read(t, "3/5 4/5 by 1 1", "3/5 -4/5 by 1 -1"), read(t, "-7/25 24/25 by 0 2", "1 0 by 4 0", "-7/25 -24/25 by 0 -2")},
		"one Unit, thrice": {read(t, "0 1 by 1 0", "0 1 by 2 0", "0 1 by 3 0"), read(t, "0 1 by 1/2 0", "0 1 by 1/3 0"), read(t, "-1 0 by 5 0")},
		"a sum of 0":       {read(t, "0 1 by 1 0", "0 -1 by 1 0"), read(t, "0 1 by 1 0", "0 -1 by -1 0"), read(t, "-1 0 by 0 0", "1 0 by 0 0")},
	} {
		if got := must(t)(shallow.Times(w[0], w[1])); !same(got, w[2]) {
			t.Errorf("Times, %s: %v", key, got)
		}
	}
	d := dice(187)
	for range 40 {
		a, b := d.rounds(6), d.rounds(6)
		if got := must(t)(shallow.Times(a, b)); !same(got, mergedOf(productsOf(a, b))) {
			t.Errorf("Times of %d and %d rounds", len(a), len(b))
		}
	}
}

// P18.4: 64 rounds are told, of however many pairs; 65 are not.
func TestTimesAtTheEdges(t *testing.T) {
	u := unit(2, 1)
	a, b := powers(t, u, 0, 32), powers(t, u, 0, 33)
	if got := must(t)(shallow.Times(a, b)); len(got) != 64 || !same(got, mergedOf(productsOf(a, b))) {
		t.Errorf("Times of 32 and 33 powers: %d", len(got))
	}
	refused(t, "Times of 33 and 33 powers", at(api.ErrLong, -1))(shallow.Times(b, b))
	l := units(65)
	if got := must(t)(shallow.Times(many(l[:8]), many(l[8:16]))); len(got) != 64 || !same(got, productsOf(many(l[:8]), many(l[8:16]))) {
		t.Errorf("Times of 8 and 8 unlike ones: %d", len(got))
	}
	refused(t, "Times of 5 and 13 unlike ones", at(api.ErrLong, -1))(shallow.Times(many(l[:5]), many(l[5:18])))
	refused(t, "Times of 64 and 64 unlike ones", at(api.ErrLong, -1))(shallow.Times(many(l[:64]), many(l[1:])))
	if got := must(t)(shallow.Times(many(l[:64]), read(t, "1 0 by 1 0"))); !same(got, many(l[:64])) {
		t.Errorf("Times of 64 and 1: %d", len(got))
	}
	if got := must(t)(shallow.Times(read(t, "1 0 by 2 0", "1 0 by -1 0"), many(l[:64]))); !same(got, many(l[:64])) {
		t.Errorf("Times of 2 alike and 64: %d", len(got))
	}
	// 4,096 pairs are one round.
	if got := must(t)(shallow.Times(slices.Repeat(read(t, "3/5 4/5 by 1/2 0"), 64), slices.Repeat(read(t, "3/5 -4/5 by 0 1/32"), 64))); !same(got, read(t, "1 0 by 0 64")) {
		t.Errorf("Times of 64 and 64 alike: %v", got)
	}
}

// P18.4: Units of 1,024 words each have a product, of 2,048.
func TestTimesOfLongUnits(t *testing.T) {
	a, b := longUnit(32768), circle(new(big.Int).Lsh(big.NewInt(1), 16383), big.NewInt(3))
	got := must(t)(shallow.Times([]api.Round{o(a, z(1, 0))}, []api.Round{o(b, z(0, 1))}))
	if !same(got, []api.Round{o(productOf(a, b), z(0, 1))}) || len(got[0].Unit.Re.Den) != 2048 {
		t.Errorf("Times of long Units: %d", len(got))
	}
	// Which then is too long to be squared.
	if f := shallow.Check(got); f != at(api.ErrLong, 0) {
		t.Errorf("Check of a product of long Units: %v at %d", f.Err, f.At)
	}
	back := must(t)(shallow.Times([]api.Round{o(a, z(1, 0))}, []api.Round{o(turned(a), z(0, 1))}))
	if !same(back, read(t, "1 0 by 0 1")) {
		t.Errorf("Times of a long Unit and its conjugate: %d", len(back))
	}
}

// P18.4: products, and sums of products, that are refused are told at no place.
func TestTimesRefuses(t *testing.T) {
	u, v, fault := unit(2, 1), z(0, 1), at(api.ErrLong, -1)
	huge, one := g(power(65535), q(0, 1)), z(1, 0)
	times := func(n int64) api.Ratio {
		return fraction(new(big.Rat).Mul(rational(power(65533)), big.NewRat(n, 1)))
	}
	for key, w := range map[string][2][]api.Round{
		"Numbers":                 {{o(u, huge)}, {o(v, z(2, 0))}},
		"Dens":                    {{o(u, g(power(-65535), q(0, 1)))}, {o(v, g(q(0, 1), q(1, 2)))}},
		"Numbers on the way":      {{o(u, g(times(4), times(3)))}, {o(u, parse(t, "3/5 4/5"))}},
		"the last pair":           {{o(u, one), o(v, huge)}, {o(u, one), o(v, z(0, 2))}},
		"the first pair":          {{o(u, huge), o(v, one)}, {o(u, z(0, 2)), o(v, one)}},
		"a Number, and too many":  {many(units(64)), {o(u, one), o(v, g(power(65535), power(65535)))}},
		"a Number of many places": {append(many(units(63)), o(v, huge)), {o(u, z(4, 0))}},
	} {
		refused(t, "Times, "+key, fault)(shallow.Times(w[0], w[1]))
		refused(t, "Times about, "+key, fault)(shallow.Times(w[1], w[0]))
	}
	if got := must(t)(shallow.Times([]api.Round{o(u, huge)}, []api.Round{o(v, one)})); len(got) != 1 || !sameGauss(got[0].Number, huge) {
		t.Error("Times, the greatest power")
	}
	for _, im := range []bool{false, true} {
		x, y, minus := tall(im)
		unity := []api.Round{o(v, one)}
		refused(t, "Times, a sum", fault)(shallow.Times([]api.Round{o(u, x), o(u, y)}, unity))
		refused(t, "Times, a sum of b", fault)(shallow.Times(unity, []api.Round{o(u, z(1, 0)), o(u, x), o(v, x), o(u, y)}))
		refused(t, "Times, a sum on the way", fault)(shallow.Times([]api.Round{o(u, x), o(u, y), o(u, minus)}, unity))
		if got := must(t)(shallow.Times([]api.Round{o(u, x), o(u, minus), o(u, y)}, unity)); !same(got, []api.Round{o(productOf(u, v), y)}) {
			t.Error("Times, a sum that went ahead")
		}
		// Of products that meet only by their Units' product.
		refused(t, "Times, a sum across", fault)(shallow.Times([]api.Round{o(u, x), o(turned(u), z(1, 0))}, []api.Round{o(turned(u), z(1, 0)), o(u, y)}))
	}
}

// P18.6, P7: At of Times is the product of both Ats.
func TestProductsOfTides(t *testing.T) {
	d := dice(188)
	for range 30 {
		a, b := d.rounds(6), d.rounds(6)
		ab := must(t)(shallow.Times(a, b))
		for _, tick := range []int{0, 1, 2, 3, d.below(16)} {
			x, y := mustOne(t)(shallow.At(a, tick)), mustOne(t)(shallow.At(b, tick))
			want, e := gauss.Mul(x, y)
			if got := mustOne(t)(shallow.At(ab, tick)); e != api.OK || !sameGauss(got, want) || !sameGauss(want, productOf(numberOf(a, tick), numberOf(b, tick))) {
				t.Errorf("At %d of Times of %d and %d rounds", tick, len(a), len(b))
			}
		}
	}
}

// P18.6: changed about it is the same, but for the order; At of Conj is the conjugate, which goes into products.
func TestTimesAboutAndConj(t *testing.T) {
	d := dice(189)
	for range 30 {
		a, b := d.rounds(6), d.rounds(6)
		ab, ba := must(t)(shallow.Times(a, b)), must(t)(shallow.Times(b, a))
		for _, x := range ab {
			if !slices.ContainsFunc(ba, func(y api.Round) bool { return sameRound(x, y) }) {
				t.Errorf("Times of %d and %d rounds, changed about", len(a), len(b))
			}
		}
		if len(ab) != len(ba) {
			t.Errorf("Times of %d and %d rounds, changed about: %d and %d", len(a), len(b), len(ab), len(ba))
		}
		ca, cb, cab := must(t)(shallow.Conj(a)), must(t)(shallow.Conj(b)), must(t)(shallow.Conj(ab))
		if got := must(t)(shallow.Times(ca, cb)); !same(got, cab) {
			t.Errorf("Times of the conjugates of %d and %d rounds", len(a), len(b))
		}
		tick := d.below(16)
		if got := mustOne(t)(shallow.At(ca, tick)); !sameGauss(got, turned(mustOne(t)(shallow.At(a, tick)))) {
			t.Errorf("At %d of Conj of %d rounds", tick, len(a))
		}
	}
}

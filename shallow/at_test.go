package shallow_test

import (
	"math/big"
	"slices"
	"testing"

	"slackwater/api"
	"slackwater/shallow"
)

// P18.5
func TestAt(t *testing.T) {
	for _, w := range []struct {
		l    []api.Round
		tick int
		want string
	}{
		{nil, 0, "0 0"}, {nil, 1, "0 0"}, {[]api.Round{}, 1024, "0 0"},
		{read(t, "3/5 4/5 by 1 0"), 0, "1 0"}, {read(t, "3/5 4/5 by 1 0"), 1, "3/5 4/5"}, {read(t, "3/5 4/5 by 1 0"), 2, "-7/25 24/25"}, {read(t, "3/5 4/5 by 1 0"), 3, "-117/125 44/125"}, {read(t, "3/5 4/5 by 0 5"), 1, "-4 3"},
		{read(t, "3/5 4/5 by 1 0", "3/5 4/5 by 2 0", "1 0 by 5 0"), 0, "8 0"}, {read(t, "3/5 4/5 by 1 0", "3/5 4/5 by 2 0", "1 0 by 5 0"), 1, "34/5 12/5"},
		{read(t, "3/5 4/5 by 1/2 0", "3/5 -4/5 by 1/2 0"), 2, "-7/25 0"}, {read(t, "0 1 by 0 0"), 7, "0 0"},
		{read(t, "0 1 by 1/2 3"), 0, "1/2 3"}, {read(t, "0 1 by 1/2 3"), 1, "-3 1/2"}, {read(t, "0 1 by 1/2 3"), 1022, "-1/2 -3"}, {read(t, "0 1 by 1/2 3"), 1023, "3 -1/2"}, {read(t, "0 1 by 1/2 3"), 1024, "1/2 3"},
		{read(t, "-1 0 by 2 0", "1 0 by 3 0", "0 -1 by 0 1"), 1023, "0 0"}, {read(t, "-1 0 by 2 0", "1 0 by 3 0", "0 -1 by 0 1"), 1024, "5 1"},
	} {
		if got := mustOne(t)(shallow.At(w.l, w.tick)); !sameGauss(got, parse(t, w.want)) {
			t.Errorf("At %d of %d rounds: %v, not %s", w.tick, len(w.l), got, w.want)
		}
	}
	d := dice(190)
	for i := range 40 {
		l := d.rounds(10)
		for _, tick := range []int{0, 1, 2, 3, i} {
			if got := mustOne(t)(shallow.At(l, tick)); !sameGauss(got, numberOf(l, tick)) {
				t.Errorf("At %d of %d rounds", tick, len(l))
			}
		}
	}
}

// P18.5: each power up to 70, and the last ones; 64 rounds.
func TestAtOfAllPowers(t *testing.T) {
	l := read(t, "3/5 4/5 by 1 0")
	n, by := planeOf(z(1, 0)), planeOf(l[0].Unit)
	for tick := range 1025 {
		if tick < 70 || tick > 1022 || tick&(tick-1) == 0 {
			if got := mustOne(t)(shallow.At(l, tick)); !sameGauss(got, n.gauss()) {
				t.Errorf("At %d", tick)
			}
		}
		n = n.times(by)
	}
	for _, tick := range []int{0, 1, 5} {
		l := many(units(64))
		if got := mustOne(t)(shallow.At(l, tick)); !sameGauss(got, numberOf(l, tick)) {
			t.Errorf("At %d of 64", tick)
		}
	}
}

// P18.5: a tick beyond, whatever the list, and that ahead of what is too long.
func TestAtBeyond(t *testing.T) {
	x, y, _ := tall(false)
	long := []api.Round{o(longUnit(32768), z(1, 0)), o(unit(2, 1), x), o(unit(2, 1), y)}
	for _, l := range [][]api.Round{nil, read(t, "1 0 by 1 0"), long} {
		for _, tick := range beyond() {
			refusedAt(t, "beyond", l, tick, at(api.ErrArg, -1))
		}
	}
}

// P18.5: the power is made by squares, and none is made that goes into nothing.
func TestAtOfLongPowers(t *testing.T) {
	for _, w := range []struct {
		bits int
		told []int
		not  []int
	}{
		{32768, []int{0, 1, 2}, []int{3, 4, 5, 7, 8, 1024}},
		{16384, []int{1, 2, 3, 4}, []int{5, 6, 7, 8, 9, 16, 1023}},
		{9362, []int{4, 5, 6, 7}, []int{8, 9, 12, 15, 16, 1024}},
		{8192, []int{7, 8}, []int{9, 10, 12, 16, 1000}},
	} {
		l := []api.Round{o(longUnit(w.bits), z(1, 0))}
		for _, tick := range w.told {
			if got := mustOne(t)(shallow.At(l, tick)); !sameGauss(got, numberOf(l, tick)) {
				t.Errorf("At %d of %d bits", tick, w.bits)
			}
		}
		for _, tick := range w.not {
			refusedAt(t, "long", l, tick, at(api.ErrLong, 0))
			refusedAt(t, "long, behind others", append(read(t, "1 0 by 1 0", "0 1 by 5 0"), l...), tick, at(api.ErrLong, 2))
			refusedAt(t, "long, though by 0", []api.Round{o(z(1, 0), z(0, 0)), o(l[0].Unit, z(0, 0))}, tick, at(api.ErrLong, 1))
		}
	}
	// A Den of 64 bits, too: the power 1,024 has 2,048 words; that of 65 bits has more.
	if got := mustOne(t)(shallow.At([]api.Round{o(longUnit(64), z(1, 0))}, 1024)); len(got.Re.Den) != 2048 {
		t.Errorf("At 1024 of 64 bits: %d words", len(got.Re.Den))
	}
	refusedAt(t, "65 bits", []api.Round{o(overUnit(64), z(1, 0))}, 1024, at(api.ErrLong, 0))
}

// P18.5, rule 6: the product with the Number, and each sum, are made on the way, in order.
func TestAtRefuses(t *testing.T) {
	u, v := unit(2, 1), z(0, 1)
	times := func(k int, n int64) api.Ratio {
		return fraction(new(big.Rat).Mul(rational(power(k)), big.NewRat(n, 1)))
	}
	for key, n := range map[string]api.Gauss{
		"a Num":               g(r(false, full(2048, 1<<32-2), ints(1)), q(0, 1)),
		"a Den":               g(q(0, 1), r(false, ints(1), full(2048, 1<<32-2))),
		"products on the way": g(times(65533, 4), times(65533, -3)),
		"Im alone":            g(times(65532, 15), times(65532, 15)),
	} {
		for place := range 3 {
			l := slices.Insert(read(t, "1 0 by 1 0", "0 1 by 2 0"), place, o(u, n))
			refusedAt(t, key, l, 1, at(api.ErrLong, place))
		}
		// At 0 it is multiplied by 1.
		if got := mustOne(t)(shallow.At([]api.Round{o(u, n)}, 0)); !sameGauss(got, n) {
			t.Errorf("At 0, %s", key)
		}
	}
	for _, im := range []bool{false, true} {
		x, y, minus := tall(im)
		for _, units := range [][3]api.Gauss{{v, v, v}, {v, z(1, 0), z(-1, 0)}} {
			p, q, w := units[0], units[1], units[2]
			refusedAt(t, "a sum", []api.Round{o(p, x), o(q, y), o(w, minus)}, 0, at(api.ErrLong, 1))
			refusedAt(t, "a later sum", []api.Round{o(u, z(0, 0)), o(p, x), o(w, x), o(q, y)}, 0, at(api.ErrLong, 3))
			if got := mustOne(t)(shallow.At([]api.Round{o(p, x), o(q, minus), o(w, y)}, 0)); !sameGauss(got, y) {
				t.Error("a sum that went ahead")
			}
		}
		// A product that is refused farther on is told behind the sum that is.
		refusedAt(t, "a sum ahead of a power", []api.Round{o(v, x), o(v, y), o(longUnit(32768), z(1, 0))}, 4, at(api.ErrLong, 1))
		refusedAt(t, "a power ahead of a sum", []api.Round{o(longUnit(32768), z(1, 0)), o(v, x), o(v, y)}, 4, at(api.ErrLong, 0))
	}
}

// P18.5: of wide Units the sum is too long from some place on.
func TestAtOfManyWideUnits(t *testing.T) {
	l := many(units(64))
	refusedAt(t, "64 Units", l, 1024, at(api.ErrLong, firstTooLong(t, l, 1024)))
	if k := firstTooLong(t, l, 1024); k < 2 {
		t.Errorf("At 1024: too long at %d", k)
	}
}

// firstTooLong is the place of the first round with which the sum is too long: no two Dens have anything in common, so theirs is the product of all.
func firstTooLong(t *testing.T, l []api.Round, tick int) int {
	t.Helper()
	under := big.NewInt(1)
	for i, x := range l {
		if len(x.Number.Re.Num)+len(x.Number.Im.Num) == 0 {
			continue
		}
		under.Mul(under, new(big.Int).Exp(natural(x.Unit.Re.Den), big.NewInt(int64(tick)), nil))
		if under.BitLen() > 65536 {
			return i
		}
	}
	t.Fatal("no sum is too long")
	return 0
}

package water_test

import (
	"math"
	"math/big"
	"slices"
	"strconv"
	"testing"

	"slackwater/api"
	"slackwater/water"
)

// P25.1: the document's examples.
func TestOfTheExamples(t *testing.T) {
	for i, w := range []struct {
		l     []api.Ratio
		first int
		want  []api.Water
	}{
		{wholes(0, 1, 0), 5, []api.Water{top(6, 6, q(1, 1))}},
		{wholes(0, 1, 1, 0, 2, 2), 0, []api.Water{top(1, 2, q(1, 1)), bottom(3, 3, q(0, 1))}},
		{wholes(1, 1, 1), 0, nil}, {nil, 0, nil}, {wholes(), 9, nil}, {wholes(1, 0), 0, nil}, {wholes(0, 1), 0, nil}, {wholes(7), 3, nil}, {wholes(0, 0), 3, nil},
		{wholes(1, 0, 1), 0, []api.Water{bottom(1, 1, q(0, 1))}},
		{wholes(1, 1, 0), 0, nil}, {wholes(0, 1, 1), 0, nil}, {wholes(0, 1, 2), 0, nil}, {wholes(2, 1, 1, 0), 0, nil}, {wholes(0, 1, 1, 2), 0, nil},
		{wholes(0, 1, 1, 1, 1, 0), 10, []api.Water{top(11, 14, q(1, 1))}},
		{wholes(3, 3, -1, -1, 3, 3), 10, []api.Water{bottom(12, 13, q(-1, 1))}},
		{wholes(0, 2, 1, 1, 2, 2, 0, 5), 1, []api.Water{top(2, 2, q(2, 1)), bottom(3, 4, q(1, 1)), top(5, 6, q(2, 1)), bottom(7, 7, q(0, 1))}},
	} {
		if got := found(t)(water.Of(w.l, w.first)); !sameWaters(got, w.want) {
			t.Errorf("%d: %v, not %v", i, got, w.want)
		}
	}
}

// P25.1: all lists of up to seven heights out of three, with fractions below 0 and above.
func TestOfAllSmallLists(t *testing.T) {
	three := []api.Ratio{q(-1, 3), q(-1, 4), q(2, 7)}
	for size := range 8 {
		many := int(math.Pow(3, float64(size)))
		for k := range many {
			var l []api.Ratio
			for range size {
				l = append(l, three[k%3])
				k /= 3
			}
			if got, want := found(t)(water.Of(l, 40)), watersOf(rationals(l), 40); !sameWaters(got, want) {
				t.Fatalf("%v: %v, not %v", l, got, want)
			}
		}
	}
}

// P25.1: heights thrown out of few, so that runs are frequent, or out of many.
func TestOfThrownLists(t *testing.T) {
	d := dice(251)
	for i := range 300 {
		var few, l []api.Ratio
		for range 1 + d.below(9) {
			few = append(few, d.fraction())
		}
		for range d.below(60) {
			l = append(l, few[d.below(len(few))])
		}
		first := d.below(1<<20 - 60)
		if got, want := found(t)(water.Of(l, first)), watersOf(rationals(l), first); !sameWaters(got, want) {
			t.Fatalf("%d: %v, not %v", i, got, want)
		}
	}
}

// close are pairs of heights, the second one a little above, which no float tells apart or none holds.
func close() [][2]api.Ratio {
	all := full(2048, 1<<32-1)
	fewer := slices.Clone(all)
	fewer[0] -= 2
	over := func(num []uint32) api.Ratio { return fraction(new(big.Rat).SetFrac(natural(num), natural(two(65535)))) }
	third := q(1, 3)
	more := fraction(new(big.Rat).Add(rational(third), rational(r(false, ints(1), two(3000)))))
	return [][2]api.Ratio{
		{third, more},
		{over(fewer), over(all)},
		{r(false, fewer, ints(1)), r(false, all, ints(1))},
		{r(false, ints(1), all), r(false, ints(1), fewer)},
		{r(true, all, ints(1)), r(true, fewer, ints(1))},
		{r(true, ints(1), all), q(0, 1)},
		{q(0, 1), r(false, ints(1), two(65535))},
		{q(1, 2), r(false, ints(2), ints(3))},
		{q(-1, 2), q(1, 2)},
		{q(-3, 2), q(-2, 3)},
		{q(1<<53, 1), q(1<<53+1, 1)},
	}
}

// P25.1: exactly.
func TestOfCloseHeights(t *testing.T) {
	for i, w := range close() {
		low, high := w[0], w[1]
		l := []api.Ratio{low, high, high, low, high, low, low, high}
		want := []api.Water{top(8, 9, high), bottom(10, 10, low), top(11, 11, high), bottom(12, 13, low)}
		if got := found(t)(water.Of(l, 7)); !sameWaters(got, want) {
			t.Errorf("%d", i)
		}
	}
}

// P25.1: 4,096 heights, and runs of nearly so many.
func TestOfManyHeights(t *testing.T) {
	zigzag, plain := make([]api.Ratio, 4096), make([]api.Ratio, 4096)
	var want []api.Water
	for i := range zigzag {
		zigzag[i], plain[i] = q(int64(i%2), 1), q(1, 1)
		if i > 0 && i < 4095 {
			want = append(want, api.Water{Tick: i, Last: i, Top: i%2 == 1, Height: q(int64(i%2), 1)})
		}
	}
	if got := found(t)(water.Of(zigzag, 0)); !sameWaters(got, want) {
		t.Errorf("one up, one down: %d waters", len(got))
	}
	if got := found(t)(water.Of(plain, 0)); len(got) > 0 {
		t.Errorf("all equal: %v", got)
	}
	plain[0] = q(0, 1)
	if got := found(t)(water.Of(plain, 0)); len(got) > 0 {
		t.Errorf("all equal but the first: %v", got)
	}
	plain[4095] = q(-1, 1)
	if got := found(t)(water.Of(plain, 0)); !sameWaters(got, []api.Water{top(1, 4094, q(1, 1))}) {
		t.Errorf("all equal but the ends: %v", got)
	}
	for _, first := range []int{0, 1, 1<<20 - 4095} {
		if got := found(t)(water.Of(plain, first)); !sameWaters(got, []api.Water{top(first+1, first+4094, q(1, 1))}) {
			t.Errorf("all equal but the ends, from %d: %v", first, got)
		}
	}
}

// firstsBeyond are no ticks.
func firstsBeyond() []int {
	return []int{-1, -2, -4096, 1<<20 + 1, 1<<20 + 2, 1 << 21, 1 << 32, -1 << 32, 1<<32 + 5, math.MaxInt, math.MaxInt - 1, math.MaxInt - 4095, math.MinInt, math.MinInt + 4095}
}

// fits tells whether so many heights may stand from a tick on.
func fits(n, first int) bool {
	return first >= 0 && first <= 1<<20 && (n == 0 || first <= 1<<20-(n-1))
}

// P25.1, P25.2: the first and the last tick.
func TestPlaces(t *testing.T) {
	for _, n := range []int{0, 1, 2, 3, 4, 4095, 4096} {
		heights, offs := make([]api.Ratio, n), make([]api.Off, n)
		for i := range heights {
			heights[i], offs[i] = q(int64(i%2), 1), up(float64(i%2), 0)
		}
		firsts := append(firstsBeyond(), 0, 1, 1<<20-1, 1<<20, 1<<20-n-1, 1<<20-n, 1<<20-n+1, 1<<20-n+2)
		for _, first := range firsts {
			what := strconv.Itoa(n) + " from " + strconv.Itoa(first)
			l, e := water.Of(heights, first)
			s, f := water.Sures(offs, first)
			if !fits(n, first) {
				refused(t, what, l, e, api.ErrArg)
				refusedSure(t, what, s, f, api.ErrArg)
				continue
			}
			if e != api.OK || len(l) != max(n-2, 0) || n > 2 && (l[0].Tick != first+1 || l[n-3].Last != first+n-2) {
				t.Errorf("%s: %v, %d waters", what, e, len(l))
			}
			if f != api.OK || len(s.Tops) != max(n-1, 0)/2 || len(s.Doubts) > 0 || n > 2 && s.Tops[0] != first+1 {
				t.Errorf("%s: %v, %v", what, f, s)
			}
		}
	}
}

// P25.1, P25.2, rule 1: too many, then a tick that is none, then a height that may not be.
func TestOfRefuses(t *testing.T) {
	for _, n := range []int{4097, 4098, 8192} {
		what := strconv.Itoa(n)
		for _, first := range append(firstsBeyond(), 0, 5, 1<<20, 1<<20-n+1) {
			l, e := water.Of(slices.Repeat(wholes(1), n), first)
			refused(t, what, l, e, api.ErrLong)
			l, e = water.Of(make([]api.Ratio, n), first)
			refused(t, what+" that may not be", l, e, api.ErrLong)
			s, e := water.Sures(make([]api.Off, n), first)
			refusedSure(t, what, s, e, api.ErrLong)
		}
	}
	for key, w := range wrongRatios() {
		for _, first := range append(firstsBeyond(), 1<<20-1) {
			l, e := water.Of([]api.Ratio{q(0, 1), w.a, q(0, 1)}, first)
			refused(t, key+" beyond", l, e, api.ErrArg)
		}
		for at := range 6 {
			l := slices.Insert(wholes(0, 0, 1, 0, 3), at, w.a)
			for _, first := range []int{0, 1, 1<<20 - 5} {
				got, e := water.Of(l, first)
				refused(t, key+" at "+strconv.Itoa(at), got, e, w.want)
			}
			for other, v := range wrongRatios() {
				got, e := water.Of(append(slices.Clone(l), v.a), 0)
				refused(t, key+" ahead of "+other, got, e, w.want)
			}
		}
		l, e := water.Of([]api.Ratio{w.a}, 0)
		refused(t, key+" alone", l, e, w.want)
		l, e = water.Of(append(slices.Repeat(wholes(2), 4095), w.a), 0)
		refused(t, key+" at the end", l, e, w.want)
	}
}

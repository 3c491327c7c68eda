package clean_test

import (
	"math"
	"slices"
	"testing"

	"slackwater/api"
	"slackwater/clean"
)

// P20.1
func TestMean(t *testing.T) {
	inf, nan := math.Inf(1), math.NaN()
	for _, c := range []struct {
		l    []float64
		want float64
	}{
		{nil, 0}, {[]float64{}, 0}, {noNumbers(), 0}, {[]float64{1, 2, 4.5}, 2.5}, {[]float64{4.5, 1, 2}, 2.5}, {[]float64{nan, inf, 3}, 3}, {[]float64{3, -inf}, 3}, {[]float64{7}, 7}, {[]float64{-7}, -7}, {[]float64{5, 7}, 6}, {[]float64{greatest}, greatest}, {[]float64{-greatest}, -greatest}, {[]float64{least}, least},
		// What is lost by rounding tells in which order they were added.
		{[]float64{1, 0x1p53, 1}, (2 + 0x1p53) / 3}, {[]float64{0x1p53, -1, 1, 1}, 0x1p51}, {[]float64{-0x1p53, -1, 1, 0x1p53}, 0.25}, {[]float64{0x1p53, -0x1p53, -1}, 0}, {[]float64{-1, -0x1p53, -1}, -0x1p53 / 3},
		// The sums come back from beside the end of the floats.
		{[]float64{greatest, -greatest}, 0}, {[]float64{1e308, -1e308, 1e308}, 1e308 / 3}, {[]float64{greatest, 0x1p969}, greatest / 2},
		// Halves of the least float are rounded to the even one.
		{[]float64{least, least}, least}, {[]float64{least, 0}, 0}, {[]float64{least, 2 * least}, 2 * least}, {[]float64{-least, -2 * least}, -2 * least}, {[]float64{2 * least, 3 * least}, 2 * least},
		{[]float64{0.1, 0.1, 0.1}, (0.1 + float64(0.2)) / 3}, {[]float64{1, nan, 1, inf, 1, -inf}, 1},
	} {
		was := slices.Clone(c.l)
		if m, e := clean.Mean(c.l); e != api.OK || m != c.want {
			t.Errorf("Mean(%v): %v, %v; not %v", was, m, e, c.want)
		}
	}
}

// P20.1: noughts, to the bit.
func TestMeanOfNoughts(t *testing.T) {
	for _, l := range [][]float64{nil, {}, {0}, {minus()}, {minus(), minus()}, {minus(), 0}, {0, minus()}, {math.NaN()}, {1, -1}, {-1, minus(), 1}} {
		if m, e := clean.Mean(l); e != api.OK || !bare(m) {
			t.Errorf("Mean(%v): %v, %v", l, m, e)
		}
	}
}

// P20.1
func TestMeanBeyondFloats(t *testing.T) {
	for _, l := range [][]float64{
		{1e308, 1e308}, {-1e308, -1e308}, {greatest, 0x1p970}, {greatest, greatest}, {greatest, greatest, greatest, greatest},
		// The greater ones bring such a sum back no more, though the mean would be a float.
		{-1e308, -1e308, 1e308, 1e308}, {1e308, -1e308, 1e308, -1e308}, {-greatest, -greatest, greatest}, {1, 1e308, 1e308, -1},
		{1e308, math.NaN(), 1e308, math.Inf(-1)},
	} {
		if m, e := clean.Mean(l); e != api.ErrOver || !bare(m) {
			t.Errorf("Mean(%v): %v, %v", l, m, e)
		}
	}
}

// P20.1: all heights count for the length, finite or not, and ahead of what they come to.
func TestMeanOfMany(t *testing.T) {
	for _, x := range append(noNumbers(), 2, 1e308) {
		if m, e := clean.Mean(repeat(x, 65537)); e != api.ErrLong || !bare(m) {
			t.Errorf("65,537 of %v: %v, %v", x, m, e)
		}
		if _, e := clean.Mean(append(repeat(1.0, 65536), x)); e != api.ErrLong {
			t.Errorf("65,536 and %v: %v", x, e)
		}
	}
	if m, e := clean.Mean(repeat(2.5, 65536)); e != api.OK || m != 2.5 {
		t.Errorf("65,536 heights: %v, %v", m, e)
	}
	if m, e := clean.Mean(repeat(math.NaN(), 65536)); e != api.OK || !bare(m) {
		t.Errorf("65,536 NaN: %v, %v", m, e)
	}
	if m, e := clean.Mean(repeat(1e308, 65536)); e != api.ErrOver || !bare(m) {
		t.Errorf("65,536 that come to too much: %v, %v", m, e)
	}
	l := append(repeat(math.Inf(1), 65535), 4)
	if m, e := clean.Mean(l); e != api.OK || m != 4 {
		t.Errorf("one of 65,536: %v, %v", m, e)
	}
}

// P20.1
func TestMedian(t *testing.T) {
	inf, nan := math.Inf(1), math.NaN()
	for _, c := range []struct {
		l    []float64
		want float64
	}{
		{[]float64{3, 1, 2}, 2}, {[]float64{4, 1}, 2.5}, {[]float64{1e308, 1e308}, 1e308}, {[]float64{-1e308, -1e308}, -1e308}, {[]float64{greatest, greatest}, greatest}, {[]float64{-greatest, greatest}, 0}, {[]float64{5}, 5}, {[]float64{nan, 5, inf}, 5}, {[]float64{-inf, 5, 7, nan}, 6}, {[]float64{9, 1, 1, 1, 9}, 1}, {[]float64{9, 1, 9, 1}, 5}, {[]float64{-5, 3, -1, 2}, 0.5}, {[]float64{-3, -1, -2}, -2}, {[]float64{-10, 2, 9}, 2},
		// Halves that are rounded, each by itself, to the even one.
		{[]float64{least, least}, 0}, {[]float64{3 * least, 3 * least}, 4 * least}, {[]float64{-3 * least, -3 * least}, -4 * least}, {[]float64{least, 3 * least}, 2 * least}, {[]float64{5 * least, 7 * least}, 6 * least}, {[]float64{0, least}, 0}, {[]float64{least, 2 * least}, least}, {[]float64{3 * least}, 3 * least},
		// The sum of the halves is rounded, too.
		{[]float64{1, 1 + 0x1p-52}, 1}, {[]float64{1 + 0x1p-52, 1 + 0x2p-52}, 1 + 0x2p-52}, {[]float64{0x1p53, 1}, 0x1p52}, {[]float64{0x1p53, 3}, 0x1p52 + 2},
	} {
		was := slices.Clone(c.l)
		if m, ok := clean.Median(c.l); !ok || m != c.want {
			t.Errorf("Median(%v): %v, %v; not %v", was, m, ok, c.want)
		}
	}
	for _, l := range [][]float64{nil, {}, {nan}, {inf}, {-inf}, noNumbers()} {
		if m, ok := clean.Median(l); ok || !bare(m) {
			t.Errorf("Median(%v): %v, %v", l, m, ok)
		}
	}
}

// P20.1: -0 stands ahead of +0, and the one in the middle is told as it is.
func TestMedianOfNoughts(t *testing.T) {
	for _, c := range []struct {
		l    []float64
		want float64
	}{
		{[]float64{minus()}, minus()}, {[]float64{0}, 0}, {[]float64{0, minus(), 0}, 0}, {[]float64{minus(), 0, minus()}, minus()}, {[]float64{0, minus(), minus()}, minus()}, {[]float64{0, 0, minus()}, 0}, {[]float64{minus(), 1, 0}, 0}, {[]float64{1, 0, minus()}, 0}, {[]float64{0, minus(), -1}, minus()}, {[]float64{minus(), -1, 0}, minus()}, {[]float64{0, 1, minus(), -1, minus()}, minus()}, {[]float64{0, 1, minus(), -1, 0}, 0},
	} {
		if m, ok := clean.Median(c.l); !ok || !alike(m, c.want) {
			t.Errorf("Median(%v): %v, %v; not %v", c.l, m, ok, c.want)
		}
	}
}

// P20.1: a median is refused for no length.
func TestMedianOfMany(t *testing.T) {
	var l []float64
	for i := range 100001 {
		l = append(l, float64(i*7919%100001))
	}
	if m, ok := clean.Median(l); !ok || m != 50000 {
		t.Errorf("of 0 to 100,000: %v, %v", m, ok)
	}
	if m, ok := clean.Median(append(l, 100001, math.NaN())); !ok || m != 50000.5 {
		t.Errorf("of 0 to 100,001: %v, %v", m, ok)
	}
	if m, ok := clean.Median(repeat(math.NaN(), 100000)); ok || !bare(m) {
		t.Errorf("of 100,000 NaN: %v, %v", m, ok)
	}
}

// P20.1, P20.8: means and medians by exact fractions, each step rounded.
func TestMeanByFractions(t *testing.T) {
	d := dice(201)
	for i := range 6000 {
		throw := []func() float64{d.plain, d.height, d.great}[i%3]
		l := d.list(d.below(12), throw)
		m, e := clean.Mean(l)
		if want, ok := meanOf(l); ok != (e == api.OK) || !ok && e != api.ErrOver || m != want {
			t.Errorf("Mean(%v): %v, %v; not %v, %v", l, m, e, want, ok)
		}
		x, is := clean.Median(l)
		if want, ok := medianOf(l); ok != is || x != want {
			t.Errorf("Median(%v): %v, %v; not %v, %v", l, x, is, want, ok)
		}
	}
	l := d.list(3001, d.plain)
	if m, _ := clean.Mean(l); m != first(meanOf(l)) {
		t.Errorf("Mean of 3,001: %v", m)
	}
}

func first(x float64, _ bool) float64 { return x }

// P20.7, P20.8: neither order nor what is no number counts.
func TestMeanInAnyOrder(t *testing.T) {
	d := dice(202)
	for i := range 600 {
		throw := d.plain
		if i%2 == 0 {
			throw = d.height
		}
		l := d.list(1+d.below(30), throw)
		m, e := clean.Mean(l)
		x, ok := clean.Median(l)
		for range 4 {
			k := shuffled(&d, append(slices.Clone(l), noNumbers()...))
			if n, f := clean.Mean(k); f != e || !alike(n, m) {
				t.Errorf("Mean(%v): %v, %v; not %v, %v", k, n, f, m, e)
			}
			if y, is := clean.Median(k); is != ok || !alike(x, y) {
				t.Errorf("Median(%v): %v, %v; not %v, %v", k, y, is, x, ok)
			}
		}
	}
}

// P20.8
func TestBetweenLeastAndGreatest(t *testing.T) {
	d := dice(203)
	small := func() float64 { // of 2^-1021 or just above it, or 0
		x := math.Ldexp(1+float64(d.below(1000))/1000, -1021+d.below(3))
		return []float64{x, -x, x, 0}[d.below(4)]
	}
	for i := range 3000 {
		throw := []func() float64{d.plain, small, d.great}[i%3]
		l := d.list(1+d.below(9), throw)
		low, high := slices.Min(l), slices.Max(l)
		x, ok := clean.Median(l)
		if !ok || x < low || x > high {
			t.Errorf("Median(%v): %v, %v", l, x, ok)
		}
		m, e := clean.Mean(l)
		if e == api.ErrOver && i%3 == 2 {
			continue
		}
		rounding := 9 * 9 * max(math.Ldexp(max(-low, high), -52), least)
		if e != api.OK || m < low-rounding || m > high+rounding {
			t.Errorf("Mean(%v): %v, %v", l, m, e)
		}
	}
}

// P20.8
func TestMedianOfNegatives(t *testing.T) {
	d := dice(204)
	for range 3000 {
		l := d.list(1+d.below(8), d.height)
		var k []float64
		for _, x := range l {
			k = append(k, -x)
		}
		x, ok := clean.Median(l)
		if y, is := clean.Median(k); ok != is || x != -y {
			t.Errorf("Median(%v): %v, %v; of the negatives %v, %v", l, x, ok, y, is)
		}
	}
	// The negatives are added the other way round.
	l := []float64{1, 1, 0x1p53}
	k := []float64{-1, -1, -0x1p53}
	x, _ := clean.Mean(l)
	y, _ := clean.Mean(k)
	if x == -y {
		t.Errorf("Mean(%v): %v; of the negatives %v", l, x, y)
	}
}

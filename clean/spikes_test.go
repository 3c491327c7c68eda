package clean_test

import (
	"math"
	"slices"
	"testing"

	"slackwater/api"
	"slackwater/clean"
)

// P20.4
func TestSpikes(t *testing.T) {
	inf, nan := math.Inf(1), math.NaN()
	nine := heights(1, 1, 9, 1, 1)
	for _, c := range []struct {
		l     []api.Sample
		width int
		limit float64
		want  []int
	}{
		{nil, 1, 0, nil}, {[]api.Sample{}, 16, 0, nil},
		{nine, 2, 5, []int{2}}, {nine, 2, 3, []int{0, 2, 4}}, {nine, 2, 8, nil}, {nine, 2, math.Nextafter(8, 0), []int{2}}, {nine, 2, 4, []int{2}}, {nine, 1, 4, []int{2}}, {nine, 1, 3, []int{1, 2, 3}}, {nine, 3, 3, []int{2}}, {nine, 16, 0, []int{2}}, {nine, 16, minus(), []int{2}}, {nine, 16, greatest, nil},
		// One without a median beside it does not stand out.
		{heights(5), 1, 0, nil}, {heights(5, nan), 1, 0, nil}, {heights(nan, 5, inf), 1, 0, nil}, {heights(5, nan, 8), 1, 0, nil}, {heights(5, nan, 8), 2, 0, []int{0, 2}}, {heights(nan, nan), 1, 0, nil},
		// No numbers take their places, but stand out nowhere.
		{heights(1, nan, 9, inf, 1), 2, 7, []int{0, 2, 4}}, {heights(nan, 1, 1, inf, 1), 2, 0, nil}, {heights(1, nan, nan, 9), 2, 0, nil}, {heights(1, nan, nan, 9), 3, 7, []int{0, 3}},
		// By the size.
		{heights(1, 1, -9, 1, 1), 1, 9, []int{2}}, {heights(-1, -1, 9, -1), 1, 9, []int{2, 3}}, {heights(-1, -1, 9, -1), 1, 10, nil},
		// The difference is rounded, even beyond the floats.
		{heights(greatest, -greatest), 1, greatest, []int{0, 1}}, {heights(0x1p53, -1), 1, 0x1p53, nil}, {heights(0x1p53, -3), 1, 0x1p53, []int{0, 1}}, {heights(0x1p53, -3), 1, 0x1p53 + 4, nil},
		{heights(0, minus(), 0), 1, 0, nil}, {heights(0, least, 0), 1, 0, []int{0, 1, 2}}, {heights(0, least, 0, 0), 1, 0, []int{0, 1}}, {heights(0, least, 0), 1, least, nil}, {heights(0, 2*least, 0), 1, least, []int{0, 1, 2}},
		// By places, whatever the ticks are.
		{[]api.Sample{s(9, 1), s(9, 1), s(-4, 9), s(math.MaxInt, 1), s(0, 1)}, 2, 5, []int{2}},
	} {
		if l, e := clean.Spikes(c.l, c.width, c.limit); e != api.OK || !slices.Equal(l, c.want) {
			t.Errorf("Spikes(%v, %d, %v): %v, %v; not %v", c.l, c.width, c.limit, l, e, c.want)
		}
	}
}

// P20.4: just so many to either side, up to 16.
func TestSpikesWidth(t *testing.T) {
	for width := 1; width <= 16; width++ {
		for far := 1; far <= 17; far++ {
			l := heights(repeat(math.NaN(), 41)...)
			l[20].Height = 5
			l[20-far].Height, l[20+far].Height = 1, 1
			ahead, behind := slices.Clone(l), slices.Clone(l)
			ahead[20+far].Height = math.NaN()
			behind[20-far].Height = math.NaN()
			for key, k := range map[string][]api.Sample{"both": l, "ahead": ahead, "behind": behind} {
				p, e := clean.Spikes(k, width, 3.5)
				if e != api.OK || slices.Contains(p, 20) != (far <= width) {
					t.Errorf("width %d, %s by %d: %v, %v", width, key, far, p, e)
				}
			}
		}
	}
}

// P20.4: each error, and which goes ahead of which.
func TestSpikesRefused(t *testing.T) {
	long := heights(repeat(1.0, 4097)...)
	short := heights(1, 9, 1)
	nan, inf := math.NaN(), math.Inf(1)
	for _, c := range []struct {
		l     []api.Sample
		width int
		limit float64
		want  api.Errno
	}{
		{long, 1, 0, api.ErrLong}, {long, 0, nan, api.ErrLong}, {long, 1, -1, api.ErrLong}, {heights(repeat(nan, 4097)...), 1, 0, api.ErrLong},
		{short, 0, 1, api.ErrArg}, {short, 17, 1, api.ErrArg}, {short, -1, 1, api.ErrArg}, {short, math.MaxInt, 1, api.ErrArg}, {short, math.MinInt, 1, api.ErrArg}, {short, 1 << 32, 1, api.ErrArg}, {short, 1<<32 + 1, 1, api.ErrArg}, {short, 0, nan, api.ErrArg}, {short, 17, inf, api.ErrArg}, {nil, 0, 1, api.ErrArg},
		{short, 1, nan, api.ErrNumber}, {short, 1, inf, api.ErrNumber}, {short, 1, -inf, api.ErrNumber}, {nil, 16, nan, api.ErrNumber},
		{short, 1, -1, api.ErrArg}, {short, 1, -least, api.ErrArg}, {short, 16, -greatest, api.ErrArg}, {nil, 1, -1, api.ErrArg},
	} {
		if l, e := clean.Spikes(c.l, c.width, c.limit); e != c.want || len(l) != 0 {
			t.Errorf("Spikes of %d, %d, %v: %v, %v; not %v", len(c.l), c.width, c.limit, l, e, c.want)
		}
	}
	for _, x := range noNumbers() {
		if l, e := clean.Spikes(short, 1, x); e != api.ErrNumber || len(l) != 0 {
			t.Errorf("limit %v: %v, %v", x, l, e)
		}
	}
	full := heights(repeat(1.0, 4096)...)
	full[0].Height, full[4095].Height = 8, 9
	if l, e := clean.Spikes(full, 16, 1); e != api.OK || !slices.Equal(l, []int{0, 4095}) {
		t.Errorf("4,096 samples: %v, %v", l, e)
	}
}

// spikesOf tells by its words which places stand out.
func spikesOf(l []api.Sample, width int, limit float64) (places []int) {
	for i, x := range l {
		var others []float64
		for k := range l {
			if k != i && k >= i-width && k <= i+width {
				others = append(others, l[k].Height)
			}
		}
		if m, ok := medianOf(others); ok && finite(x.Height) && math.Abs(less(x.Height, m)) > limit {
			places = append(places, i)
		}
	}
	return places
}

// P20.4: thrown lists, by exact fractions.
func TestSpikesByFractions(t *testing.T) {
	d := dice(208)
	for i := range 600 {
		throw := d.plain
		if i%2 == 0 {
			throw = d.height
		}
		l := d.samples(d.below(50), 1000, throw)
		width, limit := 1+d.below(16), math.Abs(d.plain())
		if i%5 == 0 {
			limit = 0
		}
		want := spikesOf(l, width, limit)
		if p, e := clean.Spikes(l, width, limit); e != api.OK || !slices.Equal(p, want) {
			t.Errorf("Spikes(%v, %d, %v): %v, %v; not %v", l, width, limit, p, e, want)
		}
	}
}

// P20.5
func TestWithout(t *testing.T) {
	nan := math.NaN()
	l := []api.Sample{s(4, 1), s(4, nan), s(-1, minus()), s(9, math.Inf(1)), s(math.MaxInt, 5)}
	for _, c := range []struct {
		places []int
		want   []api.Sample
	}{
		{nil, l}, {[]int{}, l}, {[]int{0}, l[1:]}, {[]int{4}, l[:4]}, {[]int{0, 1, 2, 3, 4}, nil}, {[]int{1, 3}, []api.Sample{l[0], l[2], l[4]}}, {[]int{0, 4}, l[1:4]}, {[]int{2, 3}, []api.Sample{l[0], l[1], l[4]}}, {[]int{0, 1, 2, 3}, l[4:]}, {[]int{1, 2, 3, 4}, l[:1]},
	} {
		if k, e := clean.Without(l, c.places); e != api.OK || !same(k, c.want) {
			t.Errorf("without %v: %v, %v; not %v", c.places, k, e, c.want)
		}
	}
	for _, none := range [][]api.Sample{nil, {}} {
		if k, e := clean.Without(none, nil); e != api.OK || len(k) != 0 {
			t.Errorf("of none: %v, %v", k, e)
		}
	}
}

// P20.5: each error, and which goes ahead of which.
func TestWithoutRefused(t *testing.T) {
	two := heights(1, 2)
	for _, places := range [][]int{{1, 0}, {0, 0}, {1, 1}, {2}, {0, 2}, {0, 1, 2}, {-1}, {-1, 0}, {0, -1}, {1 << 32}, {1<<32 + 1}, {math.MaxInt}, {math.MinInt}, {0, math.MinInt}, {0, 1, 1}, {math.MinInt, math.MaxInt}} {
		if l, e := clean.Without(two, places); e != api.ErrArg || len(l) != 0 {
			t.Errorf("without %v: %v, %v", places, l, e)
		}
	}
	if l, e := clean.Without(nil, []int{0}); e != api.ErrArg || len(l) != 0 {
		t.Errorf("of none without one: %v, %v", l, e)
	}
	full, long := heights(repeat(1.0, 4096)...), heights(repeat(1.0, 4097)...)
	var all []int
	for i := range 4097 {
		all = append(all, i)
	}
	for _, c := range []struct {
		l      []api.Sample
		places []int
		want   api.Errno
		left   int
	}{
		{full, all[:4096], api.OK, 0}, {full, nil, api.OK, 4096}, {full, all[:4095], api.OK, 1}, {full, all[4095:4096], api.OK, 4095},
		{long, nil, api.ErrLong, 0}, {long, all, api.ErrLong, 0}, {long, []int{1, 0}, api.ErrLong, 0}, {full, all, api.ErrLong, 0}, {two, repeat(0, 4097), api.ErrLong, 0}, {nil, repeat(-1, 4097), api.ErrLong, 0}, {two, repeat(0, 4096), api.ErrArg, 0}, {full, all[4096:], api.ErrArg, 0}, {full, all[1:], api.ErrArg, 0},
	} {
		if l, e := clean.Without(c.l, c.places); e != c.want || len(l) != c.left {
			t.Errorf("%d samples without %d: %v, %d left", len(c.l), len(c.places), e, len(l))
		}
	}
}

// P20.5: thrown places.
func TestWithoutThrown(t *testing.T) {
	d := dice(209)
	for range 400 {
		l := d.samples(d.below(40), 1000, d.height)
		var places []int
		var want []api.Sample
		for i, x := range l {
			if d.below(3) == 0 {
				places = append(places, i)
			} else {
				want = append(want, x)
			}
		}
		if k, e := clean.Without(l, places); e != api.OK || !same(k, want) {
			t.Errorf("%v without %v: %v, %v", l, places, k, e)
		}
		if len(places) < 2 {
			continue
		}
		i := 1 + d.below(len(places)-1)
		places[i], places[i-1] = places[i-1], places[i]
		if k, e := clean.Without(l, places); e != api.ErrArg || len(k) != 0 {
			t.Errorf("%v without %v: %v, %v", l, places, k, e)
		}
	}
}

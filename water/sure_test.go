package water_test

import (
	"math"
	"testing"

	"slackwater/api"
	"slackwater/water"
)

// doubts are such alone.
func doubts(l ...int) api.Sure { return api.Sure{Doubts: l} }

func allOf(l []float64, bound float64) []api.Off {
	var all []api.Off
	for _, x := range l {
		all = append(all, up(x, bound))
	}
	return all
}

// P25.2: the document's examples, and others beside them.
func TestSuresOfTheExamples(t *testing.T) {
	for i, w := range []struct {
		heights []float64
		bound   float64
		first   int
		want    api.Sure
	}{
		{[]float64{0, 1, 0.85}, 0.1, 0, doubts(1, 2)},
		{[]float64{0, 1, 0}, 0.1, 7, api.Sure{Tops: []int{8}}},
		{[]float64{1, 0, 1}, 0.1, 7, api.Sure{Bottoms: []int{8}}},
		{nil, 0, 0, api.Sure{}}, {[]float64{1}, 9, 5, api.Sure{}}, {[]float64{0, 1}, 0.1, 5, api.Sure{}}, {[]float64{1, 0}, 0.1, 5, api.Sure{}},
		{[]float64{0, 0}, 0, 5, doubts(5, 6)}, {[]float64{0, 1}, 0.5, 5, doubts(5, 6)}, {[]float64{1, 0}, 0.5, 0, doubts(0, 1)}, {[]float64{1, 0}, 0.49, 0, api.Sure{}},
		{[]float64{0, 1, 2, 3}, 0.25, 0, api.Sure{}}, {[]float64{3, 2, 1, 0}, 0.25, 0, api.Sure{}}, {[]float64{0, 1, 2, 3}, 0.5, 4, doubts(4, 5, 6, 7)},
		{[]float64{0, 1, 0, 1, 0}, 0.25, 3, api.Sure{Tops: []int{4, 6}, Bottoms: []int{5}}},
		{[]float64{0, 0, 1, 0, 0}, 0.25, 0, api.Sure{Tops: []int{2}, Doubts: []int{0, 1, 3, 4}}},
		{[]float64{0, 2, 2, 0, 5}, 0.25, 9, api.Sure{Bottoms: []int{12}, Doubts: []int{10, 11}}},
		{[]float64{0, 1, 2, 2, 1, 0}, 0, 0, doubts(2, 3)},
		{[]float64{5, 5, 0, 5, 9, 1, 1}, 0.5, 0, api.Sure{Tops: []int{4}, Bottoms: []int{2}, Doubts: []int{0, 1, 5, 6}}},
		// One side alone is in doubt.
		{[]float64{1, 1, 0}, 0.1, 0, doubts(0, 1)}, {[]float64{0, 1, 1}, 0.1, 0, doubts(1, 2)},
	} {
		if got := sure(t)(water.Sures(allOf(w.heights, w.bound), w.first)); !sameSure(got, w.want) {
			t.Errorf("%d: %v, not %v", i, got, w.want)
		}
	}
}

// P25.2: bounds that are unlike: how far a tick is off counts against both its neighbours.
func TestSuresOfUnlikeBounds(t *testing.T) {
	for i, w := range []struct {
		l    []api.Off
		want api.Sure
	}{
		{[]api.Off{up(0, 0.75), up(1, 0.125), up(0, 0)}, api.Sure{Tops: []int{1}}},
		{[]api.Off{up(0, 0.875), up(1, 0.125), up(0, 0)}, doubts(0, 1)},
		{[]api.Off{up(0, 0), up(1, 0.125), up(0, 0.875)}, doubts(1, 2)},
		{[]api.Off{up(0, 0), up(1, 1), up(0, 0)}, doubts(0, 1, 2)},
		{[]api.Off{up(1, 0), up(0, 1), up(1, 0)}, doubts(0, 1, 2)},
		{[]api.Off{up(2, 0), up(0, 1), up(2, 0)}, api.Sure{Bottoms: []int{1}}},
		{[]api.Off{up(2, 0), up(0, 1), up(2, 1)}, doubts(1, 2)},
		{[]api.Off{up(0x1p53, 1), up(0x1p53+2, 1), up(0, 0)}, doubts(0, 1)},
		{[]api.Off{up(0x1p53, 1), up(0x1p53+4, 1), up(0, 0)}, api.Sure{Tops: []int{1}}},
		// Each step is rounded by itself.
		{[]api.Off{up(1, 0x1p-54), up(1+0x1p-52, 0), up(1, 0)}, api.Sure{Tops: []int{1}}},
		{[]api.Off{up(1, 0x1p-53), up(1+0x1p-52, 0x1p-53), up(0, 0)}, doubts(0, 1)},
	} {
		if got := sure(t)(water.Sures(w.l, 0)); !sameSure(got, w.want) {
			t.Errorf("%d: %v, not %v", i, got, w.want)
		}
	}
}

// P25.2, P1: of any reals: NaN makes doubts, bounds below 0 make a tick a top and a bottom at once.
func TestSuresOfAnyReals(t *testing.T) {
	inf, no := math.Inf(1), math.NaN()
	for i, w := range []struct {
		l    []api.Off
		want api.Sure
	}{
		{[]api.Off{up(no, 0)}, api.Sure{}},
		{[]api.Off{up(no, 0), up(1, 0)}, doubts(0, 1)},
		{[]api.Off{up(0, 0), up(no, 0), up(0, 0), up(1, 0), up(0, 0)}, api.Sure{Tops: []int{3}, Doubts: []int{0, 1, 2}}},
		{[]api.Off{up(0, 0), up(1, no), up(0, 0)}, doubts(0, 1, 2)},
		{[]api.Off{up(0, 0), up(inf, 0), up(0, 0)}, api.Sure{Tops: []int{1}}},
		{[]api.Off{up(0, 0), up(-inf, 0), up(0, 0)}, api.Sure{Bottoms: []int{1}}},
		{[]api.Off{up(inf, 0), up(inf, 0), up(0, 0)}, doubts(0, 1)},
		{[]api.Off{up(inf, inf), up(0, 0), up(-inf, -inf)}, doubts(0, 1)},
		{[]api.Off{up(0, inf), up(5, 0), up(0, 0)}, doubts(0, 1)},
		{[]api.Off{up(0, -5), up(0, -5), up(0, -5)}, api.Sure{Tops: []int{1}, Bottoms: []int{1}}},
		{[]api.Off{up(0, -5), up(1, -5), up(0, 20)}, doubts(1, 2)},
		{[]api.Off{up(0, -5), up(1, -5)}, api.Sure{}},
		{[]api.Off{up(0, -5), up(3, -5), up(0, 0)}, api.Sure{Tops: []int{1}, Bottoms: []int{1}}},
		{[]api.Off{up(0, -5), up(9, -2), up(0, 0)}, api.Sure{Tops: []int{1}}},
		{[]api.Off{up(math.MaxFloat64, math.MaxFloat64), up(inf, 0), up(0, 0)}, doubts(0, 1)},
	} {
		if got := sure(t)(water.Sures(w.l, 0)); !sameSure(got, w.want) {
			t.Errorf("%d: %v, not %v", i, got, w.want)
		}
	}
}

// P25.2: heights and bounds out of few, NaN and infinities among them.
func TestSuresOfThrownLists(t *testing.T) {
	d := dice(253)
	heights := []float64{0, math.Copysign(0, -1), 1, -1, 0.5, 2, 1e300, -1e300, 0x1p-1074}
	bounds := []float64{0, 0.25, 0.5, 1, 0x1p-1074}
	odd := []float64{math.NaN(), math.Inf(1), math.Inf(-1), -3, math.MaxFloat64}
	for i := range 3000 {
		all, both := heights, bounds
		if i%3 == 0 {
			all, both = append(odd, heights...), append(odd, bounds...)
		}
		var l []api.Off
		for range d.below(12) {
			l = append(l, up(all[d.below(len(all))], both[d.below(len(both))]))
		}
		first := d.below(1<<20 - 12)
		if got, want := sure(t)(water.Sures(l, first)), suresOf(l, first); !sameSure(got, want) {
			t.Fatalf("%v from %d: %v, not %v", l, first, got, want)
		}
	}
}

// P25.2: 4,096 heights.
func TestSuresOfManyHeights(t *testing.T) {
	d := dice(254)
	var l []api.Off
	for range 4096 {
		l = append(l, up(float64(d.below(40)), float64(d.below(4))/2))
	}
	got, want := sure(t)(water.Sures(l, 1<<20-4095)), suresOf(l, 1<<20-4095)
	if !sameSure(got, want) || len(got.Tops) == 0 || len(got.Bottoms) == 0 || len(got.Doubts) == 0 {
		t.Errorf("%d, %d and %d, not %d, %d and %d", len(got.Tops), len(got.Bottoms), len(got.Doubts), len(want.Tops), len(want.Bottoms), len(want.Doubts))
	}
}

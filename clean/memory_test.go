package clean_test

import (
	"math"
	"slices"
	"testing"

	"slackwater/api"
	"slackwater/clean"
)

// roomy is a copy of a list with spare room behind it, filled with x.
func roomy[T any](l []T, x T) []T {
	return append(slices.Clone(l), x, x, x, x, x)[:len(l)]
}

// scribble writes over a list and its spare room.
func scribble[T any](l []T, x T) {
	l = l[:cap(l)]
	for i := range l {
		l[i] = x
	}
}

// watched is a list with spare room, which tells whether it was changed.
func watched(t *testing.T, l []api.Sample) ([]api.Sample, func(key string)) {
	k := roomy(l, s(3, 77))
	was := slices.Clone(k[:cap(k)])
	return k, func(key string) {
		t.Helper()
		if !same(k[:cap(k)], was) {
			t.Errorf("%s changed what it was handed: %v, was %v", key, k[:cap(k)], was)
		}
	}
}

// Rule 4: what was handed in is not changed, and answers share none of it, nor anything with each other.
func TestMemoryOfSamples(t *testing.T) {
	d := dice(212)
	calls := map[string]func(l []api.Sample) []api.Sample{
		"Merge":           func(l []api.Sample) []api.Sample { return merged(t, l) },
		"Merge of two":    func(l []api.Sample) []api.Sample { return merged(t, l, l) },
		"Without none":    func(l []api.Sample) []api.Sample { k, _ := clean.Without(l, nil); return k },
		"Without one":     func(l []api.Sample) []api.Sample { k, _ := clean.Without(l, []int{1}); return k },
		"Without the end": func(l []api.Sample) []api.Sample { k, _ := clean.Without(l, []int{len(l) - 1}); return k },
		"Fill":            func(l []api.Sample) []api.Sample { return filled(t, l) },
	}
	mixed := append(d.rise(30, 4, d.plain), s(500, math.NaN()), s(501, 2), s(503, math.Inf(1)), s(504, minus()))
	for _, was := range [][]api.Sample{heights(1, 2, 3), d.rise(100, 1, d.plain), d.rise(100, 9, d.plain), mixed} {
		for key, call := range calls {
			l, unchanged := watched(t, was)
			a, b := call(l), call(l)
			want := slices.Clone(a)
			unchanged(key)
			scribble(a, s(-9, 9))
			unchanged(key)
			scribble(l, s(-8, 8))
			if !same(b, want) {
				t.Errorf("%s shares memory", key)
			}
		}
	}
}

// Rule 4: with heights, places and lists of lists.
func TestMemoryOfOthers(t *testing.T) {
	was := []float64{3, math.NaN(), 1, minus(), 0, 2, -5, math.Inf(1), 4}
	l := roomy(was, 99)
	whole := slices.Clone(l[:cap(l)])
	clean.Mean(l)
	clean.Median(l)
	if !slices.EqualFunc(l[:cap(l)], whole, alike) {
		t.Errorf("changed heights: %v", l)
	}
	samples, unchanged := watched(t, heights(1, 1, 9, 1, 1, math.NaN(), 7))
	a, _ := clean.Spikes(samples, 2, 3)
	b, _ := clean.Spikes(samples, 2, 3)
	want := slices.Clone(b)
	scribble(a, -7)
	unchanged("Spikes")
	if len(want) == 0 || !slices.Equal(b, want) {
		t.Errorf("Spikes: %v, then %v", want, b)
	}
	places := roomy([]int{0, 2, 5}, 6)
	rest, e := clean.Without(samples, places)
	if e != api.OK || !slices.Equal(places[:cap(places)][:8], []int{0, 2, 5, 6, 6, 6, 6, 6}) {
		t.Errorf("changed places: %v, %v", places[:cap(places)], e)
	}
	unchanged("Without")
	scribble(places, 1)
	if !same(rest, []api.Sample{s(1, 1), s(3, 1), s(4, 1), s(6, 7)}) {
		t.Errorf("Without: %v", rest)
	}
	lists := roomy([][]api.Sample{samples, heights(2, 3)}, heights(50, 60, 70))
	k := merged(t, lists...)
	if len(lists[:cap(lists)]) < 7 || !same(lists[2:3][0], heights(50, 60, 70)) || !same(lists[1], heights(2, 3)) {
		t.Errorf("changed lists: %v", lists)
	}
	unchanged("Merge")
	if !same(k, []api.Sample{s(0, 1.5), s(1, 2), s(2, 9), s(3, 1), s(4, 1), s(6, 7)}) {
		t.Errorf("Merge: %v", k)
	}
}

// P1: each call ends and none panics, at thrown arguments, and the same answer comes twice.
func TestCalm(t *testing.T) {
	d := dice(213)
	tick := func() int {
		if d.below(20) == 0 {
			return noTicks()[d.below(len(noTicks()))]
		}
		return d.below(30)
	}
	for range 2000 {
		var l []api.Sample
		for range d.below(10) {
			l = append(l, s(tick(), d.height()))
		}
		var places []int
		for range d.below(4) {
			places = append(places, tick()/3)
		}
		lists := [][]api.Sample{l, l[len(l)/2:], nil}
		a, f := clean.Merge(lists)
		if b, g := clean.Merge(lists); f != g || !same(a, b) || f.Err != api.OK && len(a) > 0 {
			t.Errorf("Merge(%v): %v, %v, then %v, %v", lists, a, f, b, g)
		}
		a, e := clean.Fill(l)
		if b, g := clean.Fill(l); e != g || !same(a, b) || e != api.OK && len(a) > 0 {
			t.Errorf("Fill(%v): %v, %v, then %v, %v", l, a, e, b, g)
		}
		a, e = clean.Without(l, places)
		if b, g := clean.Without(l, places); e != g || !same(a, b) || e != api.OK && len(a) > 0 {
			t.Errorf("Without(%v, %v): %v, %v, then %v, %v", l, places, a, e, b, g)
		}
		width, limit := tick()-2, d.height()
		p, e := clean.Spikes(l, width, limit)
		if q, g := clean.Spikes(l, width, limit); e != g || !slices.Equal(p, q) || e != api.OK && len(p) > 0 {
			t.Errorf("Spikes(%v, %d, %v): %v, %v, then %v, %v", l, width, limit, p, e, q, g)
		}
		clean.Rising(l)
	}
}

package clean_test

import (
	"math"
	"slices"
	"testing"

	"slackwater/api"
	"slackwater/clean"
)

// P20.2
func TestMerge(t *testing.T) {
	nan := math.NaN()
	for _, c := range []struct {
		l    [][]api.Sample
		want []api.Sample
	}{
		{nil, nil}, {[][]api.Sample{}, nil}, {[][]api.Sample{nil, {}}, nil},
		{[][]api.Sample{{s(1, 2), s(3, 5)}, {s(3, 7), s(2, nan)}}, []api.Sample{s(1, 2), s(3, 6)}},
		{[][]api.Sample{{s(3, 5), s(1, 2)}}, []api.Sample{s(1, 2), s(3, 5)}},
		// The same tick more than once in one list: all of its heights count alike.
		{[][]api.Sample{{s(4, 1), s(4, 2)}, {s(4, 4.5)}}, []api.Sample{s(4, 2.5)}},
		{[][]api.Sample{{s(4, 1), s(4, 1), s(4, 1)}, {s(4, 5)}}, []api.Sample{s(4, 2)}},
		{[][]api.Sample{{s(7, nan)}, {s(8, math.Inf(1)), s(9, math.Inf(-1))}}, nil},
		{[][]api.Sample{{s(7, nan), s(7, 3), s(7, math.Inf(-1))}, {s(7, 5)}}, []api.Sample{s(7, 4)}},
		{[][]api.Sample{{s(top, 1)}, {s(0, 2)}}, []api.Sample{s(0, 2), s(top, 1)}},
		{[][]api.Sample{{s(5, greatest)}, {s(6, greatest)}}, []api.Sample{s(5, greatest), s(6, greatest)}},
		// Each tick's heights are added in their order, over all lists.
		{[][]api.Sample{{s(5, 0x1p53)}, {s(5, 1)}, {s(5, 1)}}, []api.Sample{s(5, (2+0x1p53)/3)}},
	} {
		if l, f := clean.Merge(c.l); f != (api.Fault{}) || !same(l, c.want) {
			t.Errorf("Merge(%v): %v, %v; not %v", c.l, l, f, c.want)
		}
	}
}

// run is so many samples one behind the other.
func run(from, count int, height float64) (l []api.Sample) {
	for i := range count {
		l = append(l, s(from+i, height))
	}
	return l
}

// P20.2: each error, and which goes ahead of which.
func TestMergeRefused(t *testing.T) {
	one := []api.Sample{s(1, 1)}
	wrong := []api.Sample{s(1, 1), s(-1, 1)}
	long := run(0, 4097, 1)
	both := append(slices.Clone(long), s(-1, 0))
	over := []api.Sample{s(4000, 1e308), s(4000, 1e308)}
	seventeen := repeat(one, 17)
	for _, c := range []struct {
		key  string
		l    [][]api.Sample
		want api.Fault
	}{
		{"17 lists", seventeen, api.Fault{Err: api.ErrLong, At: -1}},
		{"17 lists without samples", make([][]api.Sample, 17), api.Fault{Err: api.ErrLong, At: -1}},
		{"17 lists, the first wrong", append([][]api.Sample{wrong}, repeat(one, 16)...), api.Fault{Err: api.ErrLong, At: -1}},
		{"17 lists, the first long", append([][]api.Sample{long}, repeat(one, 16)...), api.Fault{Err: api.ErrLong, At: -1}},
		{"long", [][]api.Sample{long}, api.Fault{Err: api.ErrLong, At: 0}},
		{"long behind", [][]api.Sample{one, nil, long, wrong}, api.Fault{Err: api.ErrLong, At: 2}},
		{"long with no numbers", [][]api.Sample{one, run(0, 4097, math.NaN())}, api.Fault{Err: api.ErrLong, At: 1}},
		{"long at one tick", [][]api.Sample{repeat(s(3, 1), 4097)}, api.Fault{Err: api.ErrLong, At: 0}},
		{"long and wrong", [][]api.Sample{one, both}, api.Fault{Err: api.ErrLong, At: 1}},
		{"wrong ahead of long", [][]api.Sample{wrong, long}, api.Fault{Err: api.ErrArg, At: 0}},
		{"wrong", [][]api.Sample{one, one, wrong, wrong}, api.Fault{Err: api.ErrArg, At: 2}},
		{"wrong, the 16th", append(repeat(one, 15), wrong), api.Fault{Err: api.ErrArg, At: 15}},
		{"over", [][]api.Sample{one, over}, api.Fault{Err: api.ErrOver, At: -1}},
		{"over by two lists", [][]api.Sample{over[:1], one, over[1:]}, api.Fault{Err: api.ErrOver, At: -1}},
		{"over ahead of wrong", [][]api.Sample{over, wrong}, api.Fault{Err: api.ErrArg, At: 1}},
		{"over ahead of long", [][]api.Sample{over, long}, api.Fault{Err: api.ErrLong, At: 1}},
		{"many ticks", [][]api.Sample{run(0, 4096, 1), {s(4096, 1)}}, api.Fault{Err: api.ErrLong, At: -1}},
		{"many ticks at the end", [][]api.Sample{run(top-4095, 4096, 1), {s(0, 1)}}, api.Fault{Err: api.ErrLong, At: -1}},
		{"many ticks, one over", [][]api.Sample{run(0, 4096, 1), run(4096, 3000, 1e308), {s(7095, 1e308)}}, api.Fault{Err: api.ErrOver, At: -1}},
		{"many ticks, the first over", [][]api.Sample{run(1, 4096, 1), {s(0, -1e308)}, {s(0, -1e308)}}, api.Fault{Err: api.ErrOver, At: -1}},
	} {
		if l, f := clean.Merge(c.l); f != c.want || len(l) != 0 {
			t.Errorf("%s: %v, %d samples; not %v", c.key, f, len(l), c.want)
		}
	}
}

// P20.2: ticks that are none, whatever the height there is.
func TestMergeTicks(t *testing.T) {
	for _, tick := range noTicks() {
		for _, x := range []float64{1, 0, math.NaN(), math.Inf(1)} {
			for _, list := range [][]api.Sample{{s(tick, x)}, {s(tick, x), s(5, 1)}, {s(5, 1), s(0, 2), s(tick, x)}} {
				if l, f := clean.Merge([][]api.Sample{{s(1, 1)}, list}); f != (api.Fault{Err: api.ErrArg, At: 1}) || len(l) != 0 {
					t.Errorf("Merge of the tick %d, %v: %v, %v", tick, x, l, f)
				}
			}
		}
	}
}

// P20.2: the greatest that may be.
func TestMergeOfMany(t *testing.T) {
	if l := merged(t, repeat([]api.Sample{s(1, 3)}, 16)...); !same(l, []api.Sample{s(1, 3)}) {
		t.Errorf("16 lists: %v", l)
	}
	// 65,536 heights at one tick.
	if l := merged(t, repeat(repeat(s(9, 1.5), 4096), 16)...); !same(l, []api.Sample{s(9, 1.5)}) {
		t.Errorf("16 lists of 4,096 samples at one tick: %v", l)
	}
	full := run(0, 4096, 2)
	if l := merged(t, full); !same(l, full) {
		t.Error("4,096 ticks")
	}
	var lists [][]api.Sample
	var want []api.Sample
	for i := range 16 {
		lists = append(lists, nil)
		for k := range 4096 {
			lists[i] = append(lists[i], s(4095-k, float64(k+i)))
		}
	}
	for k := range 4096 {
		want = append(want, s(k, float64(4095-k)+7.5))
	}
	if l := merged(t, lists...); !same(l, want) {
		t.Error("16 lists of 4,096 ticks")
	}
	// Ticks with no numbers alone don't count among the 4,096.
	if l := merged(t, full, run(4096, 4096, math.NaN()), run(9000, 4096, math.Inf(1))); !same(l, full) {
		t.Error("4,096 ticks and no numbers")
	}
	many, f := clean.Merge([][]api.Sample{full, run(4096, 4096, math.NaN()), {s(4096, 1)}})
	if f != (api.Fault{Err: api.ErrLong, At: -1}) || len(many) != 0 {
		t.Errorf("4,097 ticks: %v", f)
	}
}

// mergedOf tells by its words what lists come to, tick by tick.
func mergedOf(lists [][]api.Sample, limit int) (l []api.Sample, ok bool) {
	for tick := range limit {
		var heights []float64
		for _, list := range lists {
			for _, x := range list {
				if x.Tick == tick && finite(x.Height) {
					heights = append(heights, x.Height)
				}
			}
		}
		m, ok := meanOf(heights)
		if !ok {
			return nil, false
		}
		if len(heights) > 0 {
			l = append(l, s(tick, m))
		}
	}
	return l, true
}

// P20.2, P20.7 (P10): thrown lists, in several orders, with no numbers put in and left out.
func TestMergeInAnyOrder(t *testing.T) {
	d := dice(205)
	refused := 0
	for i := range 400 {
		throw := []func() float64{d.plain, d.height, d.great}[i%3]
		var lists [][]api.Sample
		for range d.below(7) {
			lists = append(lists, d.samples(d.below(15), 12, throw))
		}
		want, ok := mergedOf(lists, 12)
		fault := api.Fault{}
		if !ok {
			refused++
			fault = api.Fault{Err: api.ErrOver, At: -1}
		}
		for range 4 {
			if l, f := clean.Merge(lists); f != fault || !equal(l, want) {
				t.Fatalf("Merge(%v): %v, %v; not %v, %v", lists, l, f, want, fault)
			}
			lists = shuffled(&d, lists)
			for k := range lists {
				if d.below(2) == 0 {
					lists[k] = slices.DeleteFunc(slices.Clone(lists[k]), func(x api.Sample) bool { return !finite(x.Height) })
				}
				lists[k] = append(slices.Clone(lists[k]), s(d.below(20), noNumbers()[d.below(9)]))
				lists[k] = shuffled(&d, lists[k])
			}
		}
	}
	if refused < 10 || refused > 300 {
		t.Errorf("%d of 400 refused", refused)
	}
}

// P20.7: how the samples are dealt out over the lists counts for nothing either.
func TestMergeDealtOut(t *testing.T) {
	d := dice(206)
	for range 60 {
		l := d.samples(200, 40, d.plain)
		want := merged(t, l)
		lists := make([][]api.Sample, 1+d.below(16))
		for _, x := range shuffled(&d, l) {
			k := d.below(len(lists))
			lists[k] = append(lists[k], x)
		}
		if k := merged(t, lists...); !same(k, want) {
			t.Errorf("dealt out over %d lists: %v, not %v", len(lists), k, want)
		}
	}
}

// P20.7: a Rising list of samples that are one, merged, is told again.
func TestMergeOfOne(t *testing.T) {
	d := dice(207)
	for range 200 {
		var l, want []api.Sample
		for _, x := range d.rise(d.below(60), 30, d.height) {
			if finite(x.Height) {
				l = append(l, x)
				// +0 is as it is, and -0 becomes it.
				want = append(want, s(x.Tick, x.Height+0))
			}
		}
		if !clean.Rising(l) {
			t.Fatalf("not rising: %v", l)
		}
		if k := merged(t, l); !same(k, want) {
			t.Errorf("Merge of %v: %v", l, k)
		}
	}
	if k := merged(t, []api.Sample{s(2, minus()), s(3, 0)}); !same(k, []api.Sample{s(2, 0), s(3, 0)}) {
		t.Errorf("noughts: %v", k)
	}
}

// P20.3
func TestRising(t *testing.T) {
	nan := math.NaN()
	for _, c := range []struct {
		l    []api.Sample
		want bool
	}{
		{nil, true}, {[]api.Sample{}, true}, {[]api.Sample{s(5, nan)}, true}, {[]api.Sample{s(-5, 1)}, true},
		{[]api.Sample{s(1, 9), s(2, 1), s(9, 3)}, true}, {[]api.Sample{s(1, 1), s(1, 1)}, false}, {[]api.Sample{s(2, 1), s(1, 2)}, false}, {[]api.Sample{s(1, 1), s(3, 2), s(3, 3)}, false}, {[]api.Sample{s(1, 1), s(3, 2), s(2, 3), s(4, 4)}, false}, {[]api.Sample{s(2, 1), s(1, 2), s(3, 3)}, false},
		// No numbers have ticks, too.
		{[]api.Sample{s(1, 1), s(5, nan), s(3, 1)}, false}, {[]api.Sample{s(1, nan), s(1, nan)}, false}, {[]api.Sample{s(1, nan), s(2, math.Inf(1))}, true},
		// Whatever the ticks are.
		{[]api.Sample{s(math.MinInt, 1), s(-1, 1), s(0, 1), s(top+1, 2), s(math.MaxInt, 1)}, true}, {[]api.Sample{s(math.MaxInt, 1), s(math.MinInt, 1)}, false}, {[]api.Sample{s(math.MinInt, 1), s(math.MaxInt, 1)}, true},
		{run(0, 5000, 1), true}, {append(run(0, 5000, 1), s(4999, 2)), false},
	} {
		if is := clean.Rising(c.l); is != c.want {
			t.Errorf("Rising of %d samples: %v", len(c.l), is)
		}
	}
}

package record_test

import (
	"math"
	"slices"
	"testing"

	"slackwater/api"
	"slackwater/record"
)

// refusesSpan asks for a span that is refused.
func refusesSpan(t *testing.T, r *record.Record, a, b int, want api.Errno) {
	t.Helper()
	if l, e := r.Gaps(a, b); len(l) != 0 || e != want {
		t.Errorf("Gaps(%d, %d): %v, %v; not %v", a, b, l, e, want)
	}
	if l, e := r.Between(a, b); len(l) != 0 || e != want {
		t.Errorf("Between(%d, %d): %v, %v; not %v", a, b, l, e, want)
	}
}

// P19.3: by hand.
func TestGaps(t *testing.T) {
	r := must(t, s(3, 1.5), s(1, math.NaN()), s(5, math.Inf(1)), s(4, minus()), s(9, 2), s(top, 7))
	for _, c := range []struct {
		a, b  int
		gaps  [][2]int
		ticks []int
	}{
		{0, 0, nil, nil}, {0, 1, [][2]int{{0, 1}}, nil}, {0, 3, [][2]int{{0, 3}}, nil}, {0, 4, [][2]int{{0, 3}}, []int{3}}, {3, 4, nil, []int{3}}, {3, 5, nil, []int{3, 4}}, {3, 3, nil, nil}, {4, 4, nil, nil},
		{1, 6, [][2]int{{1, 2}, {5, 1}}, []int{3, 4}}, {5, 6, [][2]int{{5, 1}}, nil}, {5, 9, [][2]int{{5, 4}}, nil}, {5, 10, [][2]int{{5, 4}}, []int{9}}, {0, 11, [][2]int{{0, 3}, {5, 4}, {10, 1}}, []int{3, 4, 9}}, {10, 20, [][2]int{{10, 10}}, nil},
		{0, top + 1, [][2]int{{0, 3}, {5, 4}, {10, top - 10}}, []int{3, 4, 9, top}}, {0, top, [][2]int{{0, 3}, {5, 4}, {10, top - 10}}, []int{3, 4, 9}}, {top, top + 1, nil, []int{top}}, {top + 1, top + 1, nil, nil}, {top, top, nil, nil}, {top - 1, top + 1, [][2]int{{top - 1, 1}}, []int{top}}, {10, top + 1, [][2]int{{10, top - 10}}, []int{top}},
	} {
		if l, e := r.Gaps(c.a, c.b); e != api.OK || !slices.Equal(l, c.gaps) {
			t.Errorf("Gaps(%d, %d): %v, %v", c.a, c.b, l, e)
		}
		l, e := r.Between(c.a, c.b)
		var ticks []int
		for _, x := range l {
			ticks = append(ticks, x.Tick)
		}
		if e != api.OK || !slices.Equal(ticks, c.ticks) {
			t.Errorf("Between(%d, %d): %v, %v", c.a, c.b, l, e)
		}
	}
}

// P19.3: every small span of many records, tick by tick.
func TestSmallSpans(t *testing.T) {
	d := dice(193)
	for range 25 {
		m := d.samples(d.below(16), 18)
		r := must(t, m...)
		for a := range 20 {
			for b := a; b < 21; b++ {
				holdsSpan(t, "small", r, m, a, b)
			}
		}
	}
}

// P19.3: spans of any number of ticks, up to the last one.
func TestLongSpans(t *testing.T) {
	d := dice(194)
	for _, count := range []int{0, 1, 2, 300, api.MaxRecord} {
		m := d.samples(count, top+1)
		r := must(t, m...)
		for _, c := range [][2]int{{0, top + 1}, {0, top}, {1, top + 1}, {0, 4096}, {0, 4097}, {7, 4104}, {d.below(top), top + 1}, {0, d.below(top)}, {top, top + 1}, {top + 1, top + 1}} {
			holdsSpan(t, "long", r, m, c[0], c[1])
		}
	}
	// Every other tick has a sample: as many gaps as there can be.
	var m model
	for i := range api.MaxRecord {
		m = append(m, s(2*i+1, 1))
	}
	r := must(t, m...)
	if l, e := r.Gaps(0, top+1); len(l) != api.MaxRecord+1 || e != api.OK {
		t.Errorf("%d gaps, %v", len(l), e)
	}
	holdsSpan(t, "every other tick", r, m, 0, top+1)
}

// P19.3: spans that may not be, of records with samples and without.
func TestWrongSpans(t *testing.T) {
	const least, most = math.MinInt, math.MaxInt
	records := []*record.Record{record.New(), must(t, s(0, 1), s(3, 2), s(4, math.NaN()), s(top, 3)), must(t, full()...)}
	for _, r := range records {
		for _, c := range [][2]int{
			{-1, 0}, {-1, -1}, {-1, 5}, {-1, 5000}, {-24, 24}, {3, 2}, {1, 0}, {5, 4}, {5000, 0}, {0, -1}, {top, top + 2}, {top + 1, top + 2}, {top + 2, top + 2}, {0, top + 2}, {top + 1, top}, {top + 1, 0}, {top + 2, top + 1}, {-1, top + 2},
			{least, most}, {most, least}, {least, least}, {most, most}, {least, 0}, {0, least}, {0, most}, {most, 0}, {most - 5, most}, {least, least + 5}, {1 << 32, 1<<32 + 24}, {0, 1 << 32}, {-1 << 32, 5},
		} {
			refusesSpan(t, r, c[0], c[1], api.ErrArg)
		}
	}
}

package record_test

import (
	"math"
	"slices"
	"testing"

	"slackwater/api"
	"slackwater/record"
)

// P19.5: the order of adding counts for nothing.
func TestAnyOrder(t *testing.T) {
	d := dice(195)
	for _, count := range []int{2, 3, 10, 200, api.MaxRecord} {
		m := d.samples(count, 2*count)
		for range 4 {
			r := must(t, d.shuffled(m)...)
			holds(t, "in another order", r, m)
			holdsSpan(t, "in another order", r, m, 0, 2*count+5)
		}
	}
}

// P19.5: a span's gaps and its samples' ticks are its ticks, each once.
func TestTicksOnce(t *testing.T) {
	d := dice(196)
	for range 40 {
		m := d.samples(d.below(120), 200)
		r := must(t, m...)
		a := d.below(200)
		b := a + d.below(200)
		var l []int
		gaps, _ := r.Gaps(a, b)
		for i, g := range gaps {
			if i > 0 && gaps[i-1][0]+gaps[i-1][1] >= g[0] {
				t.Errorf("gaps %v and %v touch", gaps[i-1], g)
			}
			for k := range g[1] {
				l = append(l, g[0]+k)
			}
		}
		samples, _ := r.Between(a, b)
		for _, x := range samples {
			l = append(l, x.Tick)
		}
		slices.Sort(l)
		for i, tick := range l {
			if tick != a+i {
				t.Errorf("the ticks from %d to %d: %v", a, b, l)
				break
			}
		}
		if len(l) != b-a {
			t.Errorf("%d ticks from %d to %d", len(l), a, b)
		}
	}
}

// P19.5: what is taken out may be added again, with whatever height.
func TestAddedAgain(t *testing.T) {
	for _, was := range append(numbers(), noNumbers()...) {
		for _, is := range append(numbers(), noNumbers()...) {
			r := must(t, s(4, 4), s(6, was))
			if e := r.Take(6); e != api.OK {
				t.Errorf("Take of %v: %v", was, e)
			}
			if e := r.Add(s(6, is)); e != api.OK {
				t.Errorf("Add of %v: %v", is, e)
			}
			holds(t, "added again", r, model{s(4, 4), s(6, is)})
		}
	}
	// More samples than a record may have, but never at one time.
	r := record.New()
	for i := range 3 * api.MaxRecord {
		if e := r.Add(s(i, float64(i))); e != api.OK {
			t.Fatalf("Add(%d): %v", i, e)
		}
		if e := r.Take(i); e != api.OK {
			t.Fatalf("Take(%d): %v", i, e)
		}
	}
	holds(t, "emptied", r, nil)
	holdsSpan(t, "emptied", r, nil, 0, 10)
}

// step throws one call, and does it to the record and to its model.
func step(t *testing.T, d *dice, r *record.Record, m model) model {
	t.Helper()
	tick := d.below(64) - 2
	if d.below(20) == 0 {
		tick = top + d.below(3)
	}
	i := m.at(tick)
	if d.below(5) < 2 {
		want := api.ErrMissing
		if i >= 0 {
			m, want = slices.Delete(slices.Clone(m), i, i+1), api.OK
		}
		if e := r.Take(tick); e != want {
			t.Errorf("Take(%d): %v, not %v", tick, e, want)
		}
		return m
	}
	x, want := s(tick, d.height()), api.OK
	switch {
	case tick < 0 || tick > top:
		want = api.ErrArg
	case i >= 0:
		want = api.ErrThere
	default:
		m = append(slices.Clone(m), x)
	}
	if e := r.Add(x); e != want {
		t.Errorf("Add(%d, %v): %v, not %v", tick, x.Height, e, want)
	}
	return m
}

// P19.1 to P19.5: long ways of calls; what is refused changes nothing (rule 3).
func TestWays(t *testing.T) {
	d := dice(197)
	for range 20 {
		r, m := record.New(), model{}
		for range 150 {
			m = step(t, &d, r, m)
			holds(t, "on the way", r, m)
			a := d.below(40)
			holdsSpan(t, "on the way", r, m, a, a+d.below(40))
		}
		again := must(t, d.shuffled(m)...)
		if !same(again.Samples(), r.Samples()) || !slices.Equal(again.Lost(), r.Lost()) {
			t.Error("not what its samples come to")
		}
	}
}

// P19.5: what a record tells makes the same record, but for what was lost.
func TestThereAndBack(t *testing.T) {
	d := dice(198)
	for range 20 {
		m := d.samples(d.below(100), 300)
		r := must(t, m...)
		l := r.Samples()
		holds(t, "back", must(t, l...), model(l))
		for _, tick := range r.Lost() {
			l = append(l, s(tick, math.NaN()))
		}
		holds(t, "back with what was lost", must(t, l...), m)
	}
}

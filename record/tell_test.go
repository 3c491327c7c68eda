package record_test

import (
	"math"
	"testing"

	"slackwater/api"
	"slackwater/record"
)

// P19.2: one sample of each height, which is one or is none.
func TestOneOfEach(t *testing.T) {
	for _, height := range numbers() {
		r := must(t, s(12, height))
		if x, ok := r.At(12); r.Len() != 1 || len(r.Lost()) != 0 || len(r.Samples()) != 1 || !ok || x != height {
			t.Errorf("%v is not one", height)
		}
	}
	for _, height := range noNumbers() {
		r := must(t, s(12, height))
		if x, ok := r.At(12); r.Len() != 0 || len(r.Lost()) != 1 || len(r.Samples()) != 0 || ok || math.Float64bits(x) != 0 {
			t.Errorf("%v is one", height)
		}
		for range r.All() {
			t.Errorf("All goes over %v", height)
		}
	}
}

// P19.2: many, in their order, however they came.
func TestTold(t *testing.T) {
	d := dice(191)
	for _, limit := range []int{40, 300, 5000, top + 1} {
		for range 12 {
			m := d.samples(d.below(40), limit)
			holds(t, "many", must(t, m...), m)
		}
	}
	m := d.samples(api.MaxRecord, top+1)
	holds(t, "4,096", must(t, m...), m)
}

// P19.4: each height by its bits, in each answer; +0 and -0 are two.
func TestBits(t *testing.T) {
	d := dice(192)
	var m model
	for i, height := range numbers() {
		m = append(m, s(i, height))
	}
	for len(m) < 2000 {
		if x := math.Float64frombits(d.next()); finite(x) {
			m = append(m, s(len(m), x))
		}
	}
	r := must(t, m...)
	between, _ := r.Between(0, len(m))
	if !same(r.Samples(), m) || !same(between, m) || !same(collect(r), m) {
		t.Error("heights with other bits")
	}
	for _, x := range m {
		if got, ok := r.At(x.Tick); !ok || math.Float64bits(got) != math.Float64bits(x.Height) {
			t.Errorf("At(%d): %v, not %v", x.Tick, got, x.Height)
		}
	}
	for i, want := range []bool{false, true} {
		if got, _ := r.At(i); math.Signbit(got) != want {
			t.Errorf("At(%d): %v", i, got)
		}
	}
}

// Rule 10: All may be stopped at each sample, gone over again, and gone over within itself.
func TestAllStopped(t *testing.T) {
	m := model{s(2, 1), s(9, 2), s(4, math.NaN()), s(5, 3), s(0, 4)}
	r := must(t, m...)
	all, ones := r.All(), []int{0, 2, 5, 9}
	for stop := range len(ones) + 1 {
		var l []int
		for tick := range all {
			if len(l) == stop {
				break
			}
			l = append(l, tick)
		}
		if len(l) != stop {
			t.Errorf("stopped behind %v, not behind %d", l, stop)
		}
	}
	calls := 0
	all(func(int, float64) bool {
		calls++
		return false
	})
	if calls != 1 {
		t.Errorf("%d calls behind the stop", calls)
	}
	pairs := 0
	for range all {
		for range all {
			pairs++
		}
	}
	if pairs != 16 {
		t.Errorf("%d pairs", pairs)
	}
}

// Rule 10: All goes over what was there at the call that gave it.
func TestAllOfThen(t *testing.T) {
	m := model{s(2, 1), s(9, minus()), s(4, math.NaN())}
	r := must(t, m...)
	then := r.All()
	for _, tick := range []int{2, 4, 9} {
		r.Take(tick)
	}
	for _, x := range []api.Sample{s(2, 7), s(3, 3), s(4, 4)} {
		r.Add(x)
	}
	ones, _ := m.split()
	for range 2 {
		var l []api.Sample
		for tick, height := range then {
			l = append(l, s(tick, height))
		}
		if !same(l, ones) {
			t.Errorf("All of then: %v", l)
		}
	}
	holds(t, "now", r, model{s(2, 7), s(3, 3), s(4, 4)})
}

// Rule 10: the record may change while it is gone over.
func TestChangedWithin(t *testing.T) {
	m := full()
	r := must(t, m...)
	ones, lost := m.split()
	var l []api.Sample
	for tick, height := range r.All() {
		l = append(l, s(tick, height))
		if e := r.Take(tick); e != api.OK {
			t.Fatalf("Take(%d): %v", tick, e)
		}
		if e := r.Add(s(tick+1, -height)); e != api.OK {
			t.Fatalf("Add(%d): %v", tick+1, e)
		}
	}
	if !same(l, ones) {
		t.Errorf("%d samples, not %d", len(l), len(ones))
	}
	var changed model
	for _, x := range ones {
		changed = append(changed, s(x.Tick+1, -x.Height))
	}
	for _, tick := range lost {
		changed = append(changed, s(tick, math.NaN()))
	}
	holds(t, "changed", r, changed)
}

// P19.2: two records have nothing in common.
func TestTwoRecords(t *testing.T) {
	l := []api.Sample{s(1, 1), s(2, math.NaN())}
	one, other := must(t, l...), must(t, l...)
	empty := record.New()
	one.Take(1)
	other.Add(s(3, 3))
	holds(t, "one", one, model{l[1]})
	holds(t, "other", other, model{l[0], l[1], s(3, 3)})
	holds(t, "empty", empty, nil)
}

package record_test

import (
	"math"
	"slices"
	"testing"

	"slackwater/api"
	"slackwater/record"
)

// Rule 4: what was handed in is neither changed, nor kept, nor its spare room read or written.
func TestHandedIn(t *testing.T) {
	was := []api.Sample{s(5, 1), s(3, math.NaN()), s(9, minus()), s(0, 4)}
	spare := []api.Sample{s(1, 77), s(2, 78), s(2, 79)}
	l := append(slices.Clone(was), spare...)[:len(was)]
	r, f := record.From(l)
	if f != (api.Fault{}) || !same(l, was) || !same(l[len(was):len(was)+3], spare) {
		t.Errorf("changed: %v, %v", l[:len(was)+3], f)
	}
	for i := range l[:cap(l)] {
		l[:cap(l)][i] = s(7, 7)
	}
	holds(t, "behind a change of the list", r, was)
	wrong := append(slices.Clone(was), s(5, 2), s(-1, 0))
	copied := slices.Clone(wrong)
	if r, f := record.From(wrong); r != nil || f != (api.Fault{Err: api.ErrThere, At: 4}) || !same(wrong, copied) {
		t.Errorf("refused: %v, %v", wrong, f)
	}
}

// scribble writes over a list and its spare room.
func scribble[T any](l []T, x T) {
	l = l[:cap(l)]
	for i := range l {
		l[i] = x
	}
}

// Rule 4: answers share no memory with each other, nor with the record, nor with an iterator.
func TestAnswersAreNew(t *testing.T) {
	d := dice(199)
	for _, m := range []model{{s(5, 1), s(3, math.NaN()), s(9, minus()), s(0, 4)}, d.samples(300, 500), full()} {
		r := must(t, m...)
		ones, lost := m.split()
		limit := 10000
		all := r.All()
		samples, between, lostTicks := r.Samples(), first(t)(r.Between(0, limit)), r.Lost()
		gaps, _ := r.Gaps(0, limit)
		for range 2 {
			scribble(r.Samples(), s(-1, 7))
			scribble(first(t)(r.Between(0, limit)), s(-2, 8))
			scribble(r.Lost(), -3)
			g, _ := r.Gaps(0, limit)
			scribble(g, [2]int{-4, -5})
		}
		if !same(samples, ones) || !same(between, ones) || !slices.Equal(lostTicks, lost) || !slices.Equal(gaps, m.gaps(0, limit)) {
			t.Error("an answer changed with another one")
		}
		scribble(samples, s(-1, 7))
		scribble(lostTicks, -3)
		if !same(between, ones) {
			t.Error("Between changed with Samples")
		}
		var l []api.Sample
		for tick, height := range all {
			l = append(l, s(tick, height))
		}
		if !same(l, ones) {
			t.Error("All changed with an answer")
		}
		holds(t, "behind all that", r, m)
		holdsSpan(t, "behind all that", r, m, 0, limit)
	}
}

// first is a list that was not refused.
func first(t *testing.T) func([]api.Sample, api.Errno) []api.Sample {
	return func(l []api.Sample, e api.Errno) []api.Sample {
		t.Helper()
		if e != api.OK {
			t.Fatal(e)
		}
		return l
	}
}

// Rule 4: an answer stays as it was told, whatever is done to the record later.
func TestAnswersStay(t *testing.T) {
	m := model{s(5, 1), s(3, math.NaN()), s(9, minus()), s(0, 4)}
	r := must(t, m...)
	ones, lost := m.split()
	samples, between, lostTicks := r.Samples(), first(t)(r.Between(0, 20)), r.Lost()
	gaps, _ := r.Gaps(0, 20)
	for _, x := range m {
		r.Take(x.Tick)
		r.Add(s(x.Tick+1, -9))
	}
	r.Samples()
	r.Lost()
	r.Gaps(0, 20)
	if !same(samples, ones) || !same(between, ones) || !slices.Equal(lostTicks, lost) || !slices.Equal(gaps, m.gaps(0, 20)) {
		t.Error("an answer changed with its record")
	}
}

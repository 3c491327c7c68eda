package record_test

import (
	"math"
	"testing"

	"slackwater/api"
	"slackwater/record"
)

// full is a record's samples when it has all that it may have, every third one no number, at the ticks 0, 2, 4 and on.
func full() (m model) {
	for i := range api.MaxRecord {
		height := float64(i) / 2
		if i%3 == 0 {
			height = noNumbers()[i%9]
		}
		m = append(m, s(2*i, height))
	}
	return m
}

// P19.1: the document's example.
func TestExample(t *testing.T) {
	r := record.New()
	for _, c := range []struct {
		x    api.Sample
		want api.Errno
	}{{s(3, 1.5), api.OK}, {s(1, math.NaN()), api.OK}, {s(3, 2), api.ErrThere}, {s(-1, 0), api.ErrArg}, {s(5, math.Inf(1)), api.OK}} {
		if e := r.Add(c.x); e != c.want {
			t.Errorf("Add(%v): %v", c.x, e)
		}
	}
	m := model{s(3, 1.5), s(1, math.NaN()), s(5, math.Inf(1))}
	holds(t, "the example", r, m)
	for _, c := range [][2]int{{0, 6}, {3, 4}, {4, 4}} {
		holdsSpan(t, "the example", r, m, c[0], c[1])
	}
	refusesSpan(t, r, 5, 4, api.ErrArg)
	if e := r.Take(1); e != api.OK {
		t.Errorf("Take(1): %v", e)
	}
	if e := r.Take(1); e != api.ErrMissing {
		t.Errorf("Take(1) again: %v", e)
	}
	holds(t, "behind Take", r, model{m[0], m[2]})
}

// P19.1
func TestNew(t *testing.T) {
	r := record.New()
	if r == nil {
		t.Fatal("New is nil")
	}
	holds(t, "new", r, nil)
	for _, c := range [][2]int{{0, 0}, {0, 1}, {0, top + 1}, {top + 1, top + 1}} {
		holdsSpan(t, "new", r, nil, c[0], c[1])
	}
	if e := record.New().Add(s(4, 4)); e != api.OK {
		t.Error(e)
	}
	holds(t, "new, beside another one", r, nil)
}

// P19.1: at the first and the last tick, whatever the height is.
func TestAdd(t *testing.T) {
	for _, height := range append(numbers(), noNumbers()...) {
		r, m := record.New(), model{}
		for _, tick := range []int{top, 0, 5, 1, top - 1} {
			if e := r.Add(s(tick, height)); e != api.OK {
				t.Errorf("Add(%d, %v): %v", tick, height, e)
			}
			m = append(m, s(tick, height))
			holds(t, "Add", r, m)
		}
		for _, x := range m {
			for _, other := range append(numbers(), noNumbers()...) {
				if e := r.Add(s(x.Tick, other)); e != api.ErrThere {
					t.Errorf("Add(%d, %v) where %v is: %v", x.Tick, other, height, e)
				}
			}
		}
		for _, tick := range beyond() {
			if e := r.Add(s(tick, height)); e != api.ErrArg {
				t.Errorf("Add(%d, %v): %v", tick, height, e)
			}
		}
		holds(t, "behind what was refused", r, m)
	}
}

// P19.1, rule 1: of a full record a tick that is none, then one that has a sample, then the room.
func TestAddToTheFull(t *testing.T) {
	m := full()
	r := record.New()
	for i, x := range m {
		if e := r.Add(x); e != api.OK {
			t.Fatalf("Add of sample %d: %v", i, e)
		}
	}
	for _, height := range []float64{1, math.NaN(), math.Inf(-1)} {
		for _, tick := range beyond() {
			if e := r.Add(s(tick, height)); e != api.ErrArg {
				t.Errorf("Add(%d, %v): %v", tick, height, e)
			}
		}
		for _, tick := range []int{0, 2, 4, 2*api.MaxRecord - 2} {
			if e := r.Add(s(tick, height)); e != api.ErrThere {
				t.Errorf("Add(%d, %v): %v", tick, height, e)
			}
		}
		for _, tick := range []int{1, 3, 2*api.MaxRecord - 1, 2 * api.MaxRecord, top} {
			if e := r.Add(s(tick, height)); e != api.ErrLong {
				t.Errorf("Add(%d, %v): %v", tick, height, e)
			}
		}
	}
	holds(t, "full", r, m)
	holdsSpan(t, "full", r, m, 0, 9000)
	// A place is free again behind one that was no number, and behind one that was.
	for _, i := range []int{0, 1} {
		if e := r.Take(m[i].Tick); e != api.OK {
			t.Errorf("Take(%d): %v", m[i].Tick, e)
		}
		m[i] = s(2*i+1, math.Inf(1))
		if e := r.Add(m[i]); e != api.OK {
			t.Errorf("Add(%v): %v", m[i], e)
		}
		if e := r.Add(s(top, 0)); e != api.ErrLong {
			t.Errorf("Add to the full again: %v", e)
		}
	}
	holds(t, "full again", r, m)
}

// P19.1: 4,096 that are all ones, or all none, are full too.
func TestFullOfOneKind(t *testing.T) {
	for _, height := range []float64{2.5, math.NaN()} {
		r, m := record.New(), model{}
		for i := range api.MaxRecord {
			m = append(m, s(top-i, height))
			if e := r.Add(m[i]); e != api.OK {
				t.Fatalf("Add of sample %d: %v", i, e)
			}
		}
		for _, other := range []float64{1, math.NaN()} {
			if e := r.Add(s(7, other)); e != api.ErrLong {
				t.Errorf("Add of %v to %v: %v", other, height, e)
			}
		}
		holds(t, "of one kind", r, m)
		holdsSpan(t, "of one kind", r, m, 0, top+1)
	}
}

// P19.1
func TestTake(t *testing.T) {
	m := model{s(0, 1), s(top, minus()), s(7, math.NaN()), s(9, math.Inf(1)), s(8, 3)}
	r := must(t, m...)
	for _, tick := range append(beyond(), 1, 6, 10, top-1) {
		if e := r.Take(tick); e != api.ErrMissing {
			t.Errorf("Take(%d): %v", tick, e)
		}
	}
	holds(t, "nothing taken", r, m)
	for len(m) > 0 {
		tick := m[0].Tick
		m = m[1:]
		if e := r.Take(tick); e != api.OK {
			t.Errorf("Take(%d): %v", tick, e)
		}
		holds(t, "taken", r, m)
		if e := r.Take(tick); e != api.ErrMissing {
			t.Errorf("Take(%d) again: %v", tick, e)
		}
	}
	// What is empty is a record still.
	if e := r.Add(s(3, 3)); e != api.OK {
		t.Errorf("Add to the emptied: %v", e)
	}
	holds(t, "added to the emptied", r, model{s(3, 3)})
}

// P19.1: the samples in any order; none at all.
func TestFrom(t *testing.T) {
	for _, l := range [][]api.Sample{nil, {}} {
		holds(t, "From of none", must(t, l...), nil)
	}
	for _, l := range []model{{s(0, 0)}, {s(top, math.NaN())}, {s(5, 1), s(3, minus()), s(4, math.Inf(-1)), s(0, 2), s(top, 9)}, full()} {
		r := must(t, l...)
		holds(t, "From", r, l)
		holdsSpan(t, "From", r, l, 0, 9000)
	}
}

// P19.1: the first sample that Add would refuse, with its place.
func TestFromRefuses(t *testing.T) {
	nan, most := math.NaN(), full()
	late := func(l ...api.Sample) []api.Sample { return append(full(), l...) }
	for _, c := range []struct {
		l    []api.Sample
		want api.Fault
	}{
		{[]api.Sample{s(-1, 0)}, api.Fault{Err: api.ErrArg, At: 0}},
		{[]api.Sample{s(top+1, nan)}, api.Fault{Err: api.ErrArg, At: 0}},
		{[]api.Sample{s(1, 0), s(1, 0)}, api.Fault{Err: api.ErrThere, At: 1}},
		{[]api.Sample{s(1, nan), s(2, 0), s(1, 0), s(-1, 0)}, api.Fault{Err: api.ErrThere, At: 2}},
		{[]api.Sample{s(1, 0), s(2, 0), s(top+1, 0), s(1, 0)}, api.Fault{Err: api.ErrArg, At: 2}},
		{[]api.Sample{s(1, 0), s(2, 0), s(1, nan), s(2, nan)}, api.Fault{Err: api.ErrThere, At: 2}},
		{[]api.Sample{s(-5, 0), s(-5, 0)}, api.Fault{Err: api.ErrArg, At: 0}},
		{late(s(1, 0)), api.Fault{Err: api.ErrLong, At: api.MaxRecord}},
		{late(s(1, nan)), api.Fault{Err: api.ErrLong, At: api.MaxRecord}},
		{late(s(2, 0)), api.Fault{Err: api.ErrThere, At: api.MaxRecord}},
		{late(s(-1, 0)), api.Fault{Err: api.ErrArg, At: api.MaxRecord}},
		{late(s(1, 0), s(-1, 0)), api.Fault{Err: api.ErrLong, At: api.MaxRecord}},
		{append(late(), most...), api.Fault{Err: api.ErrThere, At: api.MaxRecord}},
		{append([]api.Sample{s(0, 1)}, most...), api.Fault{Err: api.ErrThere, At: 1}},
		{append([]api.Sample{s(1, 1)}, most...), api.Fault{Err: api.ErrLong, At: api.MaxRecord}},
		{append(most[:4000:4000], s(2*top, 0)), api.Fault{Err: api.ErrArg, At: 4000}},
	} {
		if r, f := record.From(c.l); r != nil || f != c.want {
			t.Errorf("From of %d samples: %v, not %v", len(c.l), f, c.want)
		}
	}
}

// none are objects that no function of the package made.
func none() map[string]*record.Record {
	return map[string]*record.Record{"nil": nil, "a literal": {}, "new": new(record.Record), "an element": &make([]record.Record, 1)[0]}
}

// Rule 5: ErrNil ahead of all else where there is an error, zero values else, and an iterator over nothing.
func TestNotMade(t *testing.T) {
	for key, r := range none() {
		for range 2 {
			for _, tick := range []int{0, 3, top, -1, top + 1} {
				if e := r.Add(s(tick, 1)); e != api.ErrNil {
					t.Errorf("%s: Add(%d): %v", key, tick, e)
				}
				if e := r.Take(tick); e != api.ErrNil {
					t.Errorf("%s: Take(%d): %v", key, tick, e)
				}
			}
			for _, c := range [][2]int{{0, 0}, {0, 6}, {0, top + 1}, {5, 4}, {-1, 4}, {0, top + 2}} {
				refusesSpan(t, r, c[0], c[1], api.ErrNil)
			}
			if r.All() == nil {
				t.Errorf("%s: All is nil", key)
			}
			holds(t, key, r, nil)
		}
	}
}

package doodson_test

import (
	"testing"

	"slackwater/api"
	"slackwater/doodson"
	"slackwater/turn"
)

// P11.3
func TestTimes(t *testing.T) {
	for _, c := range []struct {
		a, b, want api.Doodson
		e          api.Errno
	}{
		{api.Doodson{2}, api.Doodson{2, 2, -2}, api.Doodson{4, 2, -2}, api.OK},
		{api.Doodson{2}, api.Doodson{2}, api.Doodson{4}, api.OK},
		{api.Doodson{4}, api.Doodson{2}, api.Doodson{}, api.ErrDoodson},
		{api.Doodson{4}, api.Doodson{-4}, api.Doodson{}, api.OK},
		{api.Doodson{1, 2, 3, 4, -4, -3}, api.Doodson{3, 2, 1, 0, 0, -1}, api.Doodson{4, 4, 4, 4, -4, -4}, api.OK},
		{api.Doodson{0, 0, 0, 0, 0, -4}, api.Doodson{0, 0, 0, 0, 0, -1}, api.Doodson{}, api.ErrDoodson},
	} {
		if n, e := doodson.Times(c.a, c.b); n != c.want || e != c.e {
			t.Errorf("Times(%v, %v): %v, %v", c.a, c.b, n, e)
		}
	}
}

// P11.3
func TestOver(t *testing.T) {
	for _, c := range []struct {
		a, b, want api.Doodson
		e          api.Errno
	}{
		{api.Doodson{4, 2, -2}, api.Doodson{2, 2, -2}, api.Doodson{2}, api.OK},
		{api.Doodson{2}, api.Doodson{4}, api.Doodson{-2}, api.OK},
		{api.Doodson{4}, api.Doodson{4}, api.Doodson{}, api.OK},
		{api.Doodson{}, api.Doodson{4, -4}, api.Doodson{-4, 4}, api.OK},
		{api.Doodson{2}, api.Doodson{-3}, api.Doodson{}, api.ErrDoodson},
		{api.Doodson{0, 0, 0, -4}, api.Doodson{0, 0, 0, 1}, api.Doodson{}, api.ErrDoodson},
		{api.Doodson{0, 0, 0, 0, 0, -4}, api.Doodson{0, 0, 0, 0, 0, 4}, api.Doodson{}, api.ErrDoodson},
	} {
		if n, e := doodson.Over(c.a, c.b); n != c.want || e != c.e {
			t.Errorf("Over(%v, %v): %v, %v", c.a, c.b, n, e)
		}
	}
}

// joined is a and sign times b, by ints, and whether it may be.
func joined(a, b api.Doodson, sign int) (api.Doodson, api.Errno) {
	var n api.Doodson
	for k := range n {
		x := int(a[k]) + sign*int(b[k])
		if x < -4 || x > 4 {
			return api.Doodson{}, api.ErrDoodson
		}
		n[k] = int8(x)
	}
	return n, api.OK
}

// P11.3: each pair of numbers at each place, and pairs all over.
func TestTimesAndOver(t *testing.T) {
	check := func(a, b api.Doodson) {
		t.Helper()
		want, f := joined(a, b, 1)
		if n, e := doodson.Times(a, b); n != want || e != f {
			t.Errorf("Times(%v, %v): %v, %v", a, b, n, e)
		}
		want, f = joined(a, b, -1)
		if n, e := doodson.Over(a, b); n != want || e != f {
			t.Errorf("Over(%v, %v): %v, %v", a, b, n, e)
		}
	}
	for k := range 6 {
		for x := int8(-4); x <= 4; x++ {
			for y := int8(-4); y <= 4; y++ {
				a, b := api.Doodson{1, -1, 2, -2, 0, 3}, api.Doodson{2, 1, -1, 1, -3, 0}
				a[k], b[k] = x, y
				check(a, b)
			}
		}
	}
	l := someOnes()
	for _, a := range l {
		for _, b := range l {
			check(a, b)
		}
	}
}

// P11.3: of all that may be.
func TestConj(t *testing.T) {
	if n, e := doodson.Conj(api.Doodson{4, -4, 3, -2, 0, 1}); n != (api.Doodson{-4, 4, -3, 2, 0, -1}) || e != api.OK {
		t.Errorf("Conj: %v, %v", n, e)
	}
	for n := range everyOne {
		want, _ := joined(api.Doodson{}, n, -1)
		if m, e := doodson.Conj(n); m != want || e != api.OK {
			t.Fatalf("Conj(%v): %v, %v", n, m, e)
		}
	}
}

// P11.3
func TestSpecies(t *testing.T) {
	for _, c := range []struct {
		n    api.Doodson
		want int
	}{{api.Doodson{4, 2, -2}, 4}, {api.Doodson{0, 2}, 0}, {api.Doodson{1, 1, -2}, 1}, {api.Doodson{-1, 4}, 1}, {api.Doodson{-4}, 4}, {api.Doodson{-3, 0, 0, 0, 0, 4}, 3}, {api.Doodson{2, -4}, 2}, {api.Doodson{}, 0}} {
		if k, e := doodson.Species(c.n); k != c.want || e != api.OK {
			t.Errorf("Species(%v): %d, %v; not %d", c.n, k, e, c.want)
		}
	}
}

// P11.6: Phase of Times is the sum of both Phases, of Over their difference, of Conj the negative.
func TestPhaseOfProducts(t *testing.T) {
	told := 0
	l := someOnes()
	for _, a := range l {
		for _, tick := range []int{0, 1, 4711, top} {
			p, _ := doodson.Phase(a, tick)
			c, _ := doodson.Conj(a)
			want, _ := turn.Neg(p)
			if q, e := doodson.Phase(c, tick); q != want || e != api.OK {
				t.Fatalf("Phase(%v, %d): %v, %v; not %v", c, tick, q, e, want)
			}
			for _, b := range l {
				q, _ := doodson.Phase(b, tick)
				if n, e := doodson.Times(a, b); e == api.OK {
					want, _ := turn.Add(p, q)
					if r, e := doodson.Phase(n, tick); r != want || e != api.OK {
						t.Fatalf("%v times %v at %d: %v, %v; not %v", a, b, tick, r, e, want)
					}
					told++
				}
				if n, e := doodson.Over(a, b); e == api.OK {
					want, _ := turn.Sub(p, q)
					if r, e := doodson.Phase(n, tick); r != want || e != api.OK {
						t.Fatalf("%v over %v at %d: %v, %v; not %v", a, b, tick, r, e, want)
					}
				}
			}
		}
	}
	if told < 1000 {
		t.Errorf("%d products alone", told)
	}
}

package water_test

import (
	"math"
	"strconv"
	"testing"

	"slackwater/api"
	"slackwater/water"
)

// example is the document's port with the mean level 3/2 and M.
func example() api.Port { return h("Hull", q(3, 2), c("M2", 2, 1, z(1, 0))) }

// flat is a port whose heights are equal, and the greatest, at the ticks at and at + 1: its number is 2 - i at the first of both, 2 + i at the second.
func flat(at int) api.Port {
	number := []api.Gauss{z(2, -1), g(q(2, 5), q(-11, 5)), g(q(-38, 25), q(-41, 25))}[at]
	return h("Flat", q(-1, 3), c("M2", 2, 1, number))
}

// P25.1, P25.2: a port's waters are those of its heights, from the span's first tick on.
func TestPorts(t *testing.T) {
	d := dice(252)
	ports := []api.Port{example(), flat(0), flat(1), flat(2), h("Still", q(1, 2)), h("Full", q(1, 24), many(24)...)}
	for range 40 {
		ports = append(ports, d.port(6, 20))
	}
	for _, p := range ports {
		a := d.below(6)
		b := a + d.below(25)
		for _, w := range [][2]int{{a, b}, {0, 12}, {b, b}, {b, b + 1}, {b, b + 2}, {b, b + 3}} {
			what := p.Name + " " + strconv.Itoa(w[0]) + " to " + strconv.Itoa(w[1])
			want := watersOf(rationals(exactly(t, p, w[0], w[1])), w[0])
			if got := found(t)(water.Exact(p, w[0], w[1])); !sameWaters(got, want) {
				t.Errorf("Exact of %s: %v, not %v", what, got, want)
			}
			sures := suresOf(floating(t, p, w[0], w[1]), w[0])
			if got := sure(t)(water.Certain(p, w[0], w[1])); !sameSure(got, sures) {
				t.Errorf("Certain of %s: %v, not %v", what, got, sures)
			}
		}
	}
}

// P25.1, P25.2: waters that are known.
func TestKnownPorts(t *testing.T) {
	for at := range 3 {
		p := flat(at)
		got := found(t)(water.Exact(p, 0, 9))
		if at == 0 {
			if len(got) == 0 || got[0].Top || got[0].Tick < 3 {
				t.Errorf("flat at the span's beginning: %v", got)
			}
			continue
		}
		if len(got) == 0 || got[0].Tick != at || got[0].Last != at+1 || !got[0].Top {
			t.Errorf("flat at %d: %v", at, got)
		}
		if s := sure(t)(water.Certain(p, 0, 5)); len(s.Doubts) < 2 || s.Doubts[0] != at || s.Doubts[1] != at+1 {
			t.Errorf("flat at %d: %v", at, s)
		}
		if got := found(t)(water.Exact(p, 0, at+2)); len(got) > 0 {
			t.Errorf("flat at the span's end: %v", got)
		}
	}
	still := h("Still", q(7, 3))
	if got := found(t)(water.Exact(still, 3, 30)); len(got) > 0 {
		t.Errorf("still: %v", got)
	}
	s := sure(t)(water.Certain(still, 3, 30))
	if len(s.Tops)+len(s.Bottoms) > 0 || len(s.Doubts) != 27 || s.Doubts[0] != 3 || s.Doubts[26] != 29 {
		t.Errorf("still: %v", s)
	}
}

// P25.1, P25.2: the edges, all ticks and none.
func TestPortsAtTheEdges(t *testing.T) {
	p := example()
	heights, offs := exactly(t, p, 0, 1025), floating(t, p, 0, 1025)
	for _, w := range [][2]int{{0, 1025}, {0, 0}, {1024, 1024}, {1025, 1025}, {1024, 1025}, {1023, 1025}, {1022, 1025}, {1000, 1025}, {1000, 1024}} {
		a, b := w[0], w[1]
		if got, want := found(t)(water.Exact(p, a, b)), watersOf(rationals(heights[a:b]), a); !sameWaters(got, want) {
			t.Errorf("Exact %d to %d: %d waters, not %d", a, b, len(got), len(want))
		}
		if got, want := sure(t)(water.Certain(p, a, b)), suresOf(offs[a:b], a); !sameSure(got, want) {
			t.Errorf("Certain %d to %d: %v, not %v", a, b, got, want)
		}
	}
}

// refusedSpans looks so at both calls with a span.
func refusedSpans(t *testing.T, what string, p api.Port, a, b int, exactly, certain api.Errno) {
	t.Helper()
	what += " " + strconv.Itoa(a) + " to " + strconv.Itoa(b)
	l, e := water.Exact(p, a, b)
	refused(t, "Exact of "+what, l, e, exactly)
	s, e := water.Certain(p, a, b)
	refusedSure(t, "Certain of "+what, s, e, certain)
}

// P25.1, P25.2, rule 1: exact.Span's and height.Span's errors: the port's, the span's, then what is too long, or not near.
func TestPortsRefused(t *testing.T) {
	long, far := h("Long", q(0, 1), c("M2", 2, 1, g(r(false, ints(1), full(2048, 1<<32-1)), q(0, 1)))), h("Far", r(false, two(501), ints(1)), m2())
	beyond := [][2]int{{-1, 0}, {-1, 3}, {-1, -1}, {3, 2}, {1, 0}, {0, -1}, {1025, 1024}, {0, 1026}, {1026, 1026}, {1025, 1026}, {5, math.MinInt}, {math.MinInt, 5}, {math.MinInt, math.MinInt}, {0, math.MaxInt}, {math.MaxInt, 0}, {math.MaxInt, math.MaxInt}, {math.MinInt, math.MaxInt}, {0, 1 << 20}, {0, 1<<32 + 3}, {1 << 32, 1<<32 + 3}}
	for _, p := range []api.Port{example(), h("Still", q(1, 2)), long, far} {
		for _, w := range beyond {
			refusedSpans(t, p.Name, p, w[0], w[1], api.ErrArg, api.ErrArg)
		}
	}
	refusedSpans(t, "long", long, 0, 2, api.ErrLong, api.ErrOver)
	refusedSpans(t, "long", long, 1, 5, api.ErrLong, api.ErrOver)
	for key, w := range wrongPorts() {
		refusedSpans(t, key, w.p, 0, 3, w.want, w.want)
		refusedSpans(t, key, w.p, 3, 2, w.want, w.want)
	}
	for _, w := range [][2]int{{0, 5}, {3, 3}, {1025, 1025}} {
		s, e := water.Certain(far, w[0], w[1])
		refusedSure(t, "far", s, e, api.ErrOver)
	}
	// What is not near is told exactly; what gets too long on the way in floats.
	if got, want := found(t)(water.Exact(far, 0, 12)), watersOf(rationals(exactly(t, far, 0, 12)), 0); len(got) == 0 || !sameWaters(got, want) {
		t.Errorf("Exact of what is not near: %v", got)
	}
	wide := r(false, full(2048, 1<<32-1), full(2048, 1<<32-1))
	wide.Num[0] -= 2
	near := h("Near", q(0, 1), c("M2", 2, 1, g(wide, wide)))
	if s := sure(t)(water.Certain(near, 0, 12)); len(s.Tops) == 0 || !sameSure(s, suresOf(floating(t, near, 0, 12), 0)) {
		t.Errorf("Certain of what gets too long: %v", s)
	}
	l, e := water.Exact(near, 0, 12)
	refused(t, "what gets too long", l, e, api.ErrLong)
}

package exact_test

import (
	"iter"
	"math"
	"math/big"
	"testing"

	"slackwater/api"
	"slackwater/exact"
)

// levels are a port's heights over a span, by the library's fractions.
func levels(p api.Port, a, b int) []*big.Rat {
	var all []*big.Rat
	for at := a; at < b; at++ {
		all = append(all, level(p, at))
	}
	return all
}

func fractions(l []*big.Rat) []api.Ratio {
	var all []api.Ratio
	for _, f := range l {
		all = append(all, fraction(f))
	}
	return all
}

// gone are the heights that an iterator goes over, its ticks being those from a on.
func gone(t *testing.T, each iter.Seq2[int, api.Ratio], a int) []api.Ratio {
	t.Helper()
	var all []api.Ratio
	for tick, x := range each {
		if tick != a+len(all) {
			t.Fatalf("Each tells the tick %d, not %d", tick, a+len(all))
		}
		all = append(all, must(t)(x, api.OK))
	}
	return all
}

// P15.3
func TestSpanAndEach(t *testing.T) {
	p := example()
	for _, w := range []struct {
		a, b int
		want []api.Ratio
	}{{0, 3, []api.Ratio{q(11, 2), q(7, 2), q(-9, 10)}}, {1, 3, []api.Ratio{q(7, 2), q(-9, 10)}}, {1, 2, []api.Ratio{q(7, 2)}}, {2, 2, nil}, {0, 0, nil}} {
		if got := mustAll(t)(exact.Span(p, w.a, w.b)); !sameRatios(got, w.want) {
			t.Errorf("Span %d to %d: %v", w.a, w.b, got)
		}
		if got := gone(t, exact.Each(p, w.a, w.b), w.a); !sameRatios(got, w.want) {
			t.Errorf("Each %d to %d: %v", w.a, w.b, got)
		}
	}
	d := dice(153)
	for range 12 {
		p := d.port()
		a := d.below(15)
		b := a + d.below(8)
		want := fractions(levels(p, a, b))
		if got := mustAll(t)(exact.Span(p, a, b)); !sameRatios(got, want) {
			t.Errorf("Span %d to %d of %s", a, b, p.Name)
		}
		if got := gone(t, exact.Each(p, a, b), a); !sameRatios(got, want) {
			t.Errorf("Each %d to %d of %s", a, b, p.Name)
		}
	}
}

// P15.3: the edges, all ticks and none.
func TestSpanAtTheEdges(t *testing.T) {
	p := example()
	all := mustAll(t)(exact.Span(p, 0, 1025))
	if len(all) != 1025 {
		t.Fatalf("Span 0 to 1025: %d heights", len(all))
	}
	for _, at := range []int{0, 1, 2, 100, 511, 512, 1000, 1023, 1024} {
		if !sameRatio(all[at], fraction(level(p, at))) || !sameRatio(all[at], must(t)(exact.At(p, at))) {
			t.Errorf("Span 0 to 1025 at %d", at)
		}
	}
	still := h("Still", q(-2, 3))
	for _, w := range [][2]int{{0, 0}, {7, 7}, {1024, 1024}, {1025, 1025}, {1024, 1025}, {1023, 1025}, {1020, 1024}} {
		if got := mustAll(t)(exact.Span(p, w[0], w[1])); !sameRatios(got, all[w[0]:w[1]]) {
			t.Errorf("Span %d to %d: %d heights", w[0], w[1], len(got))
		}
		if got := gone(t, exact.Each(p, w[0], w[1]), w[0]); !sameRatios(got, all[w[0]:w[1]]) {
			t.Errorf("Each %d to %d: %d heights", w[0], w[1], len(got))
		}
		if got := mustAll(t)(exact.Span(still, w[0], w[1])); len(got) != w[1]-w[0] {
			t.Errorf("Span %d to %d without constituents: %d heights", w[0], w[1], len(got))
		}
	}
	if got := gone(t, exact.Each(still, 0, 1025), 0); len(got) != 1025 || !sameRatio(got[1024], q(-2, 3)) {
		t.Errorf("Each 0 to 1025 without constituents: %d heights", len(got))
	}
}

// P15.3, P15.4: spans that are none, ahead of what is too long.
func TestSpansBeyond(t *testing.T) {
	long := h("Long", q(0, 1), tooLong()["Re"])
	for _, p := range []api.Port{example(), h("Still", q(1, 2)), long} {
		for _, w := range [][2]int{{-1, 0}, {-1, 3}, {-1, -1}, {-5, -2}, {3, 2}, {1, 0}, {0, -1}, {1025, 1024}, {0, 1026}, {1026, 1026}, {1025, 1026}, {1024, 1026}, {5, math.MinInt}, {math.MinInt, 5}, {math.MinInt, math.MinInt}, {0, math.MaxInt}, {math.MaxInt, 0}, {math.MaxInt, math.MaxInt}, {math.MinInt, math.MaxInt}, {math.MaxInt, math.MinInt}, {0, 1 << 20}, {0, 1<<32 + 3}, {1 << 32, 1<<32 + 3}, {-1 << 32, 3}} {
			refusedSpan(t, p.Name, p, w[0], w[1], api.ErrArg)
		}
	}
}

// P15.3: a span is refused for one tick of its own that is, wherever it stands; ticks outside of it change nothing.
func TestSpanTooLong(t *testing.T) {
	for key, x := range tooLong() {
		p := h("Long", q(0, 1), x)
		refusedSpan(t, key, p, 0, 2, api.ErrLong)
		refusedSpan(t, key, p, 1, 2, api.ErrLong)
		want := []api.Ratio{fraction(level(p, 0))}
		if got := mustAll(t)(exact.Span(p, 0, 1)); !sameRatios(got, want) {
			t.Errorf("Span 0 to 1, %s", key)
		}
		if got := gone(t, exact.Each(p, 0, 1), 0); !sameRatios(got, want) {
			t.Errorf("Each 0 to 1, %s", key)
		}
		if low, high, e := exact.Ends(p, 0, 1); low != 0 || high != 0 || e != api.OK {
			t.Errorf("Ends 0 to 1, %s: %v", key, e)
		}
	}
	// The Den goes on by 5 from tick to tick, so that some ticks are told ahead of the first that is refused.
	p := h("Late", q(0, 1), c("M2", 2, 1, g(r(false, ints(1), two(65500)), q(0, 1))), c("x", 3, 1, z(0, 0)))
	last := -1
	for at := range 30 {
		if _, e := exact.At(p, at); e != api.OK {
			break
		}
		last = at
	}
	if last < 5 || last > 25 {
		t.Fatalf("the last that is told: %d", last)
	}
	if got := mustAll(t)(exact.Span(p, 0, last+1)); len(got) != last+1 {
		t.Errorf("Span up to the first refused: %d heights", len(got))
	}
	refusedSpan(t, "late", p, 0, last+2, api.ErrLong)
	refusedSpan(t, "late", p, last+1, last+2, api.ErrLong)
	refusedSpan(t, "late", p, 0, last+5, api.ErrLong)
	if got := mustAll(t)(exact.Span(p, last+1, last+1)); len(got) != 0 {
		t.Errorf("Span without ticks at the first refused: %d heights", len(got))
	}
}

// Rule 10: it may be stopped, gone over again, by several at once; what is told may be written over.
func TestEachAgain(t *testing.T) {
	p := example()
	want := mustAll(t)(exact.Span(p, 3, 15))
	each := exact.Each(p, 3, 15)
	for _, stop := range []int{3, 4, 8, 8, 14} {
		next := 3
		for tick, x := range each {
			if tick != next || !sameRatio(x, want[tick-3]) {
				t.Fatalf("tick %d: %d", next, tick)
			}
			if !scribbled(x) {
				t.Fatalf("tick %d: its lists share memory", next)
			}
			if tick == stop {
				break
			}
			next++
		}
		if next != stop {
			t.Errorf("stopped at %d, not at %d", next, stop)
		}
	}
	calls := 0
	each(func(int, api.Ratio) bool { calls++; return calls < 4 })
	if calls != 4 {
		t.Errorf("%d calls, not 4", calls)
	}
	for tick := range each {
		if got := gone(t, each, 3); !sameRatios(got, want) {
			t.Fatalf("within a range, at %d", tick)
		}
	}
	next, end := iter.Pull2(each)
	defer end()
	other, stop := iter.Pull2(each)
	defer stop()
	for i := range 6 {
		m, x, ok := next()
		n, y, too := other()
		if m != 3+i || n != 3+i || !ok || !too || !sameRatio(x, y) {
			t.Fatalf("tick %d by two: %d %d", 3+i, m, n)
		}
	}
	end()
	if n, y, ok := other(); n != 9 || !ok || !sameRatio(y, want[6]) {
		t.Errorf("tick 9 behind the other's end: %d %v", n, ok)
	}
}

// Rules 4 and 10: it goes over what was there at the call.
func TestEachOfAPortThatChanges(t *testing.T) {
	for _, p := range []api.Port{example(), h("Still", q(7, 3)), h("Two", q(1, 3), m2(), m2c()), h("None", q(0, 1), m2())} {
		want := mustAll(t)(exact.Span(p, 0, 5))
		changed := marked(p)
		each := exact.Each(changed, 0, 5)
		first := gone(t, each, 0)
		scribbled(changed.Mean)
		for i, x := range changed.Tides {
			scribbled(x.Number.Re, x.Number.Im)
			changed.Tides[i] = api.Tide{}
		}
		if second := gone(t, each, 0); !sameRatios(first, want) || !sameRatios(second, want) {
			t.Errorf("Each of %s behind a change", p.Name)
		}
	}
	// One that may not be stays so.
	p := example()
	p.Tides[0].Rotor = o(1, 1)
	each := exact.Each(p, 0, 5)
	p.Tides[0].Rotor = o(2, 1)
	if got := gone(t, each, 0); len(got) > 0 {
		t.Errorf("Each of what may not have been: %d", len(got))
	}
}

// P15.4
func TestEnds(t *testing.T) {
	ends := func(p api.Port, a, b, low, high int) {
		t.Helper()
		if l, k, e := exact.Ends(p, a, b); l != low || k != high || e != api.OK {
			t.Errorf("Ends %d to %d of %s: %d %d %v, not %d %d", a, b, p.Name, l, k, e, low, high)
		}
	}
	ends(example(), 0, 3, 2, 0)
	ends(example(), 1, 3, 2, 1)
	ends(example(), 2, 3, 2, 2)
	ends(example(), 1024, 1025, 1024, 1024)
	for _, still := range []api.Port{h("Still", q(1, 2)), h("Nought", q(-1, 2), c("M2", 2, 1, z(0, 0)))} {
		ends(still, 0, 9, 0, 0)
		ends(still, 7, 30, 7, 7)
	}
	// Three fifths, one, three fifths: the first of both that are the least, or, the other way up, the greatest.
	ends(h("Crest", q(0, 1), c("M2", 2, 1, g(q(3, 5), q(-4, 5)))), 0, 3, 0, 1)
	ends(h("Trough", q(0, 1), c("M2", 2, 1, g(q(-3, 5), q(4, 5)))), 0, 3, 1, 0)
	ends(h("Crest", q(9, 1), c("M2", 2, 1, g(q(-7, 25), q(-24, 25)))), 0, 5, 0, 2)
	ends(h("Trough", q(9, 1), c("M2", 2, 1, g(q(7, 25), q(24, 25)))), 0, 5, 2, 0)
	d := dice(154)
	for range 25 {
		p := d.port()
		a := d.below(12)
		b := a + 1 + d.below(9)
		low, high := a, a
		all := levels(p, a, b)
		for i, f := range all {
			if f.Cmp(all[low-a]) < 0 {
				low = a + i
			}
			if f.Cmp(all[high-a]) > 0 {
				high = a + i
			}
		}
		ends(p, a, b, low, high)
	}
}

// P15.4: a span without ticks has none, of whatever port.
func TestEndsOfNone(t *testing.T) {
	for _, p := range []api.Port{example(), h("Still", q(1, 2)), h("Long", q(0, 1), tooLong()["Re"])} {
		for _, at := range []int{0, 1, 2, 5, 1024, 1025} {
			if low, high, e := exact.Ends(p, at, at); low != 0 || high != 0 || e != api.ErrArg {
				t.Errorf("Ends %d to %d: %d %d %v", at, at, low, high, e)
			}
			if l, e := exact.Span(p, at, at); len(l) > 0 || e != api.OK {
				t.Errorf("Span %d to %d: %v", at, at, e)
			}
		}
	}
}

// P15.5, P3: a span is its pieces.
func TestSpansInPieces(t *testing.T) {
	d := dice(158)
	for range 10 {
		p := d.port()
		a := d.below(10)
		b := a + d.below(10)
		whole := mustAll(t)(exact.Span(p, a, b))
		for cut := a; cut <= b; cut++ {
			pieces := append(mustAll(t)(exact.Span(p, a, cut)), mustAll(t)(exact.Span(p, cut, b))...)
			if !sameRatios(pieces, whole) {
				t.Errorf("Span %d to %d to %d of %s", a, cut, b, p.Name)
			}
		}
		for at := a; at < b; at++ {
			if !sameRatio(must(t)(exact.At(p, at)), whole[at-a]) {
				t.Errorf("Span %d to %d of %s at %d", a, b, p.Name, at)
			}
		}
	}
}

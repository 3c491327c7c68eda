package height_test

import (
	"iter"
	"math"
	"slices"
	"testing"

	"slackwater/api"
	"slackwater/height"
)

// gone are the heights that an iterator goes over, its ticks being those from a on.
func gone(t *testing.T, each iter.Seq2[int, api.Off], a int) []api.Off {
	t.Helper()
	var all []api.Off
	for tick, x := range each {
		if tick != a+len(all) {
			t.Fatalf("Each tells the tick %d, not %d", tick, a+len(all))
		}
		all = append(all, x)
	}
	return all
}

// offs are what Span should tell.
func offs(p api.Port, a, b int) []api.Off {
	var all []api.Off
	for at := a; at < b; at++ {
		all = append(all, off(p, at))
	}
	return all
}

// P16.3
func TestSpanAndEach(t *testing.T) {
	d := dice(163)
	for i := range 60 {
		p := d.port(24, 20*(i%5))
		if i == 0 {
			p = example()
		}
		a := d.below(20)
		b := a + d.below(12)
		want := offs(p, a, b)
		if got := toldAll(t)(height.Span(p, a, b)); !slices.Equal(got, want) {
			t.Errorf("Span %d to %d of %s", a, b, p.Name)
		}
		if got := gone(t, height.Each(p, a, b), a); !slices.Equal(got, want) {
			t.Errorf("Each %d to %d of %s", a, b, p.Name)
		}
	}
}

// P16.3: the edges, all ticks and none.
func TestSpanAtTheEdges(t *testing.T) {
	p := h("Hull", q(1, 3), c("M2", 2, 1, z(1, 2)))
	all := toldAll(t)(height.Span(p, 0, 1025))
	if len(all) != 1025 {
		t.Fatalf("Span 0 to 1025: %d heights", len(all))
	}
	for _, at := range []int{0, 1, 2, 100, 511, 512, 1000, 1023, 1024} {
		if all[at] != off(p, at) || all[at] != told(t)(height.At(p, at)) {
			t.Errorf("Span 0 to 1025 at %d", at)
		}
	}
	still := h("Still", q(-2, 3))
	for _, w := range [][2]int{{0, 0}, {7, 7}, {1024, 1024}, {1025, 1025}, {1024, 1025}, {1023, 1025}, {1020, 1024}} {
		if got := toldAll(t)(height.Span(p, w[0], w[1])); !slices.Equal(got, all[w[0]:w[1]]) {
			t.Errorf("Span %d to %d: %d heights", w[0], w[1], len(got))
		}
		if got := gone(t, height.Each(p, w[0], w[1]), w[0]); !slices.Equal(got, all[w[0]:w[1]]) {
			t.Errorf("Each %d to %d: %d heights", w[0], w[1], len(got))
		}
		if got := toldAll(t)(height.Span(still, w[0], w[1])); !slices.Equal(got, offs(still, w[0], w[1])) {
			t.Errorf("Span %d to %d without constituents: %d heights", w[0], w[1], len(got))
		}
	}
	if got := gone(t, height.Each(still, 0, 1025), 0); !slices.Equal(got, offs(still, 0, 1025)) {
		t.Errorf("Each 0 to 1025 without constituents: %d heights", len(got))
	}
}

// P16.3: spans that are none, ahead of what is not near.
func TestSpansBeyond(t *testing.T) {
	for _, p := range []api.Port{example(), h("Still", q(1, 2)), h("Far", power(501), m2())} {
		for _, w := range [][2]int{{-1, 0}, {-1, 3}, {-1, -1}, {-5, -2}, {5, 4}, {1, 0}, {0, -1}, {1025, 1024}, {0, 1026}, {1026, 1026}, {1025, 1026}, {1024, 1026}, {5, math.MinInt}, {math.MinInt, 5}, {math.MinInt, math.MinInt}, {0, math.MaxInt}, {math.MaxInt, 0}, {math.MaxInt, math.MaxInt}, {math.MinInt, math.MaxInt}, {math.MaxInt, math.MinInt}, {0, 1 << 20}, {0, 1<<32 + 3}, {1 << 32, 1<<32 + 3}, {-1 << 32, 3}} {
			refusedSpan(t, p.Name, p, w[0], w[1], api.ErrArg)
		}
	}
	// A port that is not near has no span, not even one without ticks.
	refusedSpan(t, "far", h("Far", power(-501), m2()), 7, 7, api.ErrOver)
	refusedSpan(t, "far", h("Far", q(0, 1), c("M2", 2, 1, g(q(1, 1), power(501)))), 0, 1025, api.ErrOver)
}

// P16.5, P3: a span is its pieces.
func TestSpansInPieces(t *testing.T) {
	d := dice(168)
	for range 25 {
		p := d.port(12, 30)
		a := d.below(30)
		b := a + d.below(10)
		whole := toldAll(t)(height.Span(p, a, b))
		for cut := a; cut <= b; cut++ {
			pieces := append(toldAll(t)(height.Span(p, a, cut)), toldAll(t)(height.Span(p, cut, b))...)
			if !slices.Equal(pieces, whole) {
				t.Errorf("Span %d to %d to %d of %s", a, cut, b, p.Name)
			}
		}
		for at := a; at < b; at++ {
			if told(t)(height.At(p, at)) != whole[at-a] {
				t.Errorf("Span %d to %d of %s at %d", a, b, p.Name, at)
			}
		}
	}
}

// Rule 10: it may be stopped, gone over again, by several at once.
func TestEachAgain(t *testing.T) {
	p := h("Two", q(1, 3), m2(), c("K1", 7, 4, z(1, 1)))
	want := toldAll(t)(height.Span(p, 3, 15))
	each := height.Each(p, 3, 15)
	for _, stop := range []int{3, 4, 8, 8, 14} {
		next := 3
		for tick, x := range each {
			if tick != next || x != want[tick-3] {
				t.Fatalf("tick %d: %d", next, tick)
			}
			if tick == stop {
				break
			}
			next++
		}
		if next != stop {
			t.Errorf("stopped at %d, not at %d", next, stop)
		}
	}
	calls := 0
	each(func(int, api.Off) bool { calls++; return calls < 4 })
	if calls != 4 {
		t.Errorf("%d calls, not 4", calls)
	}
	for tick := range each {
		if got := gone(t, each, 3); !slices.Equal(got, want) {
			t.Fatalf("within a range, at %d", tick)
		}
	}
	next, end := iter.Pull2(each)
	defer end()
	other, stop := iter.Pull2(each)
	defer stop()
	for i := range 6 {
		m, x, ok := next()
		n, y, too := other()
		if m != 3+i || n != 3+i || !ok || !too || x != y {
			t.Fatalf("tick %d by two: %d %d", 3+i, m, n)
		}
	}
	end()
	if n, y, ok := other(); n != 9 || !ok || y != want[6] {
		t.Errorf("tick 9 behind the other's end: %d %v", n, ok)
	}
}

// scribble writes over all that a port holds, its spare room too.
func scribble(p api.Port) {
	fractions := []api.Ratio{p.Mean}
	for i, x := range p.Tides {
		fractions = append(fractions, x.Number.Re, x.Number.Im)
		p.Tides[i] = c("other", 9, 4, z(77, 78))
	}
	for _, f := range fractions {
		for _, words := range [][]uint32{f.Num, f.Den} {
			for i := range words[:cap(words)] {
				words[:cap(words)][i] = 12345
			}
		}
	}
}

// Rules 4 and 10: it goes over what was there at the call, changed ahead of the first tick, between two or behind all.
func TestEachOfAPortThatChanges(t *testing.T) {
	for _, p := range []api.Port{example(), h("Still", q(7, 3)), h("Two", q(1, 3), m2(), m2c()), h("None", q(0, 1), m2())} {
		want := toldAll(t)(height.Span(p, 0, 5))
		changed := marked(p)
		each := height.Each(changed, 0, 5)
		first := gone(t, each, 0)
		scribble(changed)
		if second := gone(t, each, 0); !slices.Equal(first, want) || !slices.Equal(second, want) {
			t.Errorf("Each of %s behind a change", p.Name)
		}
		changed = marked(p)
		each = height.Each(changed, 0, 5)
		for tick, x := range each {
			if x != want[tick] {
				t.Errorf("Each of %s at %d, changed between", p.Name, tick)
			}
			scribble(changed)
		}
		changed = marked(p)
		each = height.Each(changed, 0, 5)
		scribble(changed)
		if got := gone(t, each, 0); !slices.Equal(got, want) {
			t.Errorf("Each of %s changed ahead", p.Name)
		}
	}
	// One that may not be, or that is not near, stays so.
	p := example()
	p.Tides[0].Rotor = o(1, 1)
	each := height.Each(p, 0, 5)
	p.Tides[0].Rotor = o(2, 1)
	far := h("Far", q(1, 1), c("M2", 2, 1, g(power(501), q(0, 1))))
	other := height.Each(far, 0, 5)
	far.Tides[0].Number = z(1, 0)
	if a, b := gone(t, each, 0), gone(t, other, 0); len(a)+len(b) > 0 {
		t.Errorf("Each of what may not have been: %d, %d", len(a), len(b))
	}
}

// Rule 4: what Span tells is new memory, its spare room too.
func TestSpanIsNewMemory(t *testing.T) {
	for _, p := range []api.Port{example(), h("Still", q(7, 3)), h("Full", q(1, 24), many(24)...)} {
		first, second := toldAll(t)(height.Span(p, 0, 5)), toldAll(t)(height.Span(p, 0, 5))
		want := slices.Clone(second)
		for i := range first[:cap(first)] {
			first[:cap(first)][i] = api.Off{Height: -77, Bound: -78}
		}
		if third := toldAll(t)(height.Span(p, 0, 5)); !slices.Equal(second, want) || !slices.Equal(third, want) {
			t.Errorf("Span of %s: memory that is not its own", p.Name)
		}
	}
}

// Rule 4: what is handed in stays as it is, its spare room too.
func TestArgumentsStayAsTheyAre(t *testing.T) {
	for _, p := range []api.Port{example(), h("Still", q(-3, 2)), h("Nought", q(0, 1)), h("h9", q(7, 3), m2(), m2c()), h("Full", q(-1, 24), many(24)...), h("Far", power(501), m2()), h("Far", opposite(power(-600)), m2()), h("Far", q(1, 2), c("M2", 2, 1, g(q(-1, 1), opposite(power(501))))), h("1", q(1, 2), m2()), h("H", q(1, 2), m2(), m2())} {
		used := marked(p)
		height.Near(used)
		for _, at := range []int{0, 1, 2, -1, 1025} {
			height.At(used, at)
			height.Sum(used, at)
		}
		height.Span(used, 0, 3)
		for range height.Each(used, 0, 3) {
			continue
		}
		if !untouched(used, p) {
			t.Errorf("%s is not as it was", p.Name)
		}
	}
}

// One memory may stand in several places of what is handed in.
func TestOneMemoryInSeveralPlaces(t *testing.T) {
	f := q(-7, 25)
	shared := h("Shared", f, c("a", 2, 1, g(f, f)), c("b", 3, 1, g(f, f)), c("d", 2, -1, g(f, f)))
	if got := toldAll(t)(height.Span(shared, 0, 5)); !slices.Equal(got, offs(marked(shared), 0, 5)) {
		t.Error("one fraction in several places")
	}
	one := r(false, ints(1), nil)
	one.Den = one.Num
	unit := h("Unit", one, c("a", 2, 1, g(one, one)))
	if got := toldAll(t)(height.Span(unit, 0, 5)); !slices.Equal(got, offs(h("Unit", q(1, 1), c("a", 2, 1, z(1, 1))), 0, 5)) {
		t.Error("Num and Den in one memory")
	}
}

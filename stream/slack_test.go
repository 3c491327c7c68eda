package stream_test

import (
	"math"
	"testing"

	"slackwater/api"
	"slackwater/gauss"
	"slackwater/port"
	"slackwater/rotor"
	"slackwater/stream"
)

// slacks looks whether a span's are just these.
func slacks(t *testing.T, p api.Port, a, b int, want []api.Slack) {
	t.Helper()
	if got, e := stream.Slacks(p, a, b); e != api.OK || !sameSlacks(got, want) {
		t.Errorf("Slacks %d to %d of %s: %v, %v, not %v", a, b, p.Name, e, got, want)
	}
}

// P17.2: the document's port.
func TestSlacksOfTheExample(t *testing.T) {
	one := []api.Slack{{Tick: 2, Last: 2, Square: q(196, 625)}}
	slacks(t, example(), 0, 5, one)
	slacks(t, example(), 1, 4, one)
	for _, w := range [][2]int{{0, 3}, {2, 5}, {2, 4}, {1, 3}, {2, 3}, {0, 2}, {0, 1}, {0, 0}, {5, 5}} {
		slacks(t, example(), w[0], w[1], nil)
	}
}

// timesBoth multiplies two numbers, in what is only made ready for a test.
func timesBoth(t *testing.T, a, b api.Gauss) api.Gauss {
	t.Helper()
	x, e := gauss.Mul(a, b)
	return mustOf(t, e, x)
}

// twins has equal squares at the ticks k and k + 1, the least or (up) the greatest of all nearby.
func twins(t *testing.T, k int, up bool) api.Port {
	t.Helper()
	number, e := rotor.Power(api.Rotor{Far: 2, Near: 1}, -1-2*k)
	mustOf(t, e, number)
	if !up {
		number = timesBoth(t, number, z(-1, 0))
	}
	return h("Twins", q(0, 1), c("M2", 2, 1, number), m2c())
}

// P17.2: a run of two is one slack; cut by the span it is none; of greatest squares it is none.
func TestSlackOfTwoTicks(t *testing.T) {
	for _, k := range []int{1, 2, 9, 40} {
		p := twins(t, k, false)
		want := api.Slack{Tick: k, Last: k + 1, Square: q(4, 5)}
		if !sameRatio(must(t)(stream.Square(p, k)), want.Square) || !sameRatio(must(t)(stream.Square(p, k+1)), want.Square) {
			t.Fatalf("no twins at %d", k)
		}
		slacks(t, p, k-1, k+3, []api.Slack{want})
		slacks(t, p, k, k+3, nil)
		slacks(t, p, k-1, k+2, nil)
		slacks(t, p, k, k+2, nil)
		slacks(t, p, k+1, k+3, nil)
		slacks(t, p, k-1, k+1, nil)
		slacks(t, p, k-1, k+12, slacksOf(p, k-1, k+12))
		up := twins(t, k, true)
		if !sameRatio(must(t)(stream.Square(up, k)), must(t)(stream.Square(up, k+1))) {
			t.Fatalf("no twins at %d", k)
		}
		slacks(t, up, k-1, k+3, nil)
		slacks(t, up, k-1, k+12, slacksOf(up, k-1, k+12))
	}
}

// still has the rate 0 at the ticks from k on, as many as there are rotors less one: the Number of each is 1 over the product of its differences from the others.
func still(t *testing.T, k int, rotors ...api.Rotor) api.Port {
	t.Helper()
	p := h("Still", q(0, 1))
	for i, x := range rotors {
		under := z(1, 0)
		for j, y := range rotors {
			if i == j {
				continue
			}
			a, e := rotor.Of(x)
			mustOf(t, e, a)
			b, e := rotor.Of(y)
			mustOf(t, e, b)
			apart, e := gauss.Sub(a, b)
			under = timesBoth(t, under, mustOf(t, e, apart))
		}
		number, e := gauss.Quo(z(1, 0), under)
		p.Tides = append(p.Tides, c("T"+string(rune('a'+i)), x.Far, x.Near, mustOf(t, e, number)))
	}
	moved, e := port.Moved(p, -k)
	return mustOf(t, e, moved)
}

// P17.2: a stream that stands still for several ticks has one slack there, of the square 0; at a span's end it has none.
func TestSlackOfSeveralTicks(t *testing.T) {
	rotors := []api.Rotor{{Far: 2, Near: 1}, {Far: 2, Near: -1}, {Far: 1, Near: 2}, {Far: 3, Near: 2}, {Far: 8, Near: -1}, {Far: 4, Near: 1}}
	for n := 2; n <= len(rotors); n++ {
		p := still(t, 3, rotors[:n]...)
		last := 3 + n - 2
		slacks(t, p, 2, last+2, []api.Slack{{Tick: 3, Last: last, Square: q(0, 1)}})
		slacks(t, p, 3, last+2, nil)
		slacks(t, p, 2, last+1, nil)
		slacks(t, p, 3, last+1, nil)
		slacks(t, p, 0, last+8, slacksOf(p, 0, last+8))
		slacks(t, still(t, 0, rotors[:n]...), 0, 9, slacksOf(still(t, 0, rotors[:n]...), 0, 9))
	}
}

// P17.2: squares that are all equal have none.
func TestNoSlacks(t *testing.T) {
	for _, p := range []api.Port{h("None", q(3, 2)), h("Nought", q(0, 1), c("a", 2, 1, z(0, 0)), c("b", 3, 1, z(0, 0))), h("One", q(1, 1), c("M2", 2, 1, z(3, -4))), h("Beside", q(0, 1), m2(), c("S2", 3, 1, z(0, 0)))} {
		slacks(t, p, 0, 40, nil)
		slacks(t, p, 1000, 1025, nil)
	}
}

// P17.2: all slacks of spans of any length, and nothing else.
func TestSlacks(t *testing.T) {
	d := dice(173)
	found := 0
	for i := range 150 {
		p := d.port(6, []int{3, 8, 1000}[i%3], []int{0, 2, 700}[i/3%3])
		a := d.below(20)
		b := a + d.below(20)
		want := slacksOf(p, a, b)
		found += len(want)
		slacks(t, p, a, b, want)
	}
	if found < 100 {
		t.Errorf("only %d slacks in all", found)
	}
}

// P17.2: the longest span, and those at its end.
func TestSlacksAtTheEdges(t *testing.T) {
	p := example()
	late := slacksOf(p, 1000, 1025)
	all, e := stream.Slacks(p, 0, 1025)
	mustOf(t, e, all)
	early := slacksOf(p, 0, 100)
	if len(early) < 20 || len(late) < 5 || !sameSlacks(all[:len(early)], early) || !sameSlacks(all[len(all)-len(late):], late) {
		t.Errorf("%d slacks in all", len(all))
	}
	for i, x := range all {
		if x.Tick != x.Last || x.Tick < 1 || x.Last > 1023 || i > 0 && x.Tick <= all[i-1].Last {
			t.Errorf("slack %d: %d to %d", i, x.Tick, x.Last)
		}
	}
	slacks(t, p, 1000, 1025, late)
	for _, at := range []int{0, 1, 1024, 1025} {
		slacks(t, p, at, at, nil)
	}
	slacks(t, p, 1024, 1025, nil)
}

// P17.2: spans that may not be, ahead of what is too long.
func TestSpansThatMayNotBe(t *testing.T) {
	unit := long()
	for _, p := range []api.Port{example(), h("None", q(1, 2)), h("Full", q(0, 1), many(24)...), lone(unit.Re, unit.Im)} {
		for _, w := range [][2]int{{3, 2}, {0, 1026}, {-1, 0}, {-1, 3}, {-1, -1}, {-5, -2}, {1, 0}, {0, -1}, {1025, 1024}, {1026, 1026}, {1025, 1026}, {1024, 1026}, {0, 4096}, {0, 1 << 20}, {5, math.MinInt}, {math.MinInt, 5}, {math.MinInt, math.MinInt}, {0, math.MaxInt}, {math.MaxInt, 0}, {math.MaxInt, math.MaxInt}, {math.MinInt, math.MaxInt}, {math.MaxInt, math.MinInt}, {0, 1<<32 + 3}, {1 << 32, 1<<32 + 3}, {-1 << 32, 3}} {
			refusedSlacks(t, p.Name, p, w[0], w[1], api.ErrArg)
		}
	}
}

// P17.2: one tick of the span that is too long is enough, were it the last one; ticks outside of it change nothing.
func TestSlacksTooLong(t *testing.T) {
	small := power(-32735)
	p := h("Late", q(0, 1), c("M2", 2, 1, g(small, q(0, 1))), c("m2", 2, -1, g(small, q(0, 1))))
	last := -1
	for at := range 40 {
		if _, e := stream.Square(p, at); e != api.OK {
			refusedSquare(t, "late", p, at, api.ErrLong)
			break
		}
		last = at
	}
	if last < 6 || last > 30 {
		t.Fatalf("the last that is told: %d", last)
	}
	want := slacksOf(p, 0, last+1)
	if len(want) < 2 {
		t.Fatalf("%d slacks up to %d", len(want), last)
	}
	slacks(t, p, 0, last+1, want)
	slacks(t, p, last+1, last+1, nil)
	for _, w := range [][2]int{{0, last + 2}, {last + 1, last + 2}, {last, last + 2}, {0, last + 9}, {1, 1025}} {
		refusedSlacks(t, "late", p, w[0], w[1], api.ErrLong)
	}
	// From the tick 1 on, where the parts no longer take each other off: the first tick alone is told.
	over := r(false, ints(1), full(1000, 1<<32-1))
	p = h("Early", q(0, 1), c("M2", 2, 1, g(power(-20000), over)), c("m2", 2, -1, g(power(-20000), opposite(over))))
	if _, e := stream.Square(p, 0); e != api.OK {
		t.Fatalf("Square at 0: %v", e)
	}
	refusedSquare(t, "early", p, 1, api.ErrLong)
	refusedSlacks(t, "early", p, 0, 3, api.ErrLong)
	slacks(t, p, 0, 1, nil)
}

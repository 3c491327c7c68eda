package stream_test

import (
	"math/big"
	"slices"
	"testing"

	"slackwater/api"
	"slackwater/port"
	"slackwater/rotor"
	"slackwater/stream"
)

// P17.5: all Numbers times one rotor's power: the stream goes elsewhere as fast.
func TestSquareOfATurnedPort(t *testing.T) {
	d := dice(177)
	for i := range 40 {
		p := d.port(8, 1000, 5)
		by, e := rotor.Power(d.rotor(1000), d.below(21)-10)
		mustOf(t, e, by)
		turned := h(p.Name, p.Mean, slices.Clone(p.Tides)...)
		for j, x := range turned.Tides {
			turned.Tides[j].Number = timesBoth(t, x.Number, by)
		}
		at := d.below(6)
		if !sameRatio(must(t)(stream.Square(turned, at)), must(t)(stream.Square(p, at))) {
			t.Errorf("%d: Square at %d of %s, turned", i, at, p.Name)
		}
	}
}

// P17.5: of a port that is moved; its slacks are moved, too.
func TestSquareOfAMovedPort(t *testing.T) {
	d := dice(178)
	for range 40 {
		p := d.port(6, 30, 5)
		by, at := d.below(12), d.below(12)
		moved, e := port.Moved(p, by)
		mustOf(t, e, moved)
		if !sameRatio(must(t)(stream.Square(moved, at)), must(t)(stream.Square(p, by+at))) {
			t.Errorf("Square at %d of %s, moved by %d", at, p.Name, by)
		}
		back, e := port.Moved(p, -by)
		mustOf(t, e, back)
		if !sameRatio(must(t)(stream.Square(back, by+at)), must(t)(stream.Square(p, at))) {
			t.Errorf("Square at %d of %s, moved by %d", by+at, p.Name, -by)
		}
		want, e := stream.Slacks(p, by, by+15)
		for i := range mustOf(t, e, want) {
			want[i].Tick -= by
			want[i].Last -= by
		}
		slacks(t, moved, 0, 15, want)
	}
}

// P17.5: no square is above the square of all sizes together, each part's size counted.
func TestNoSquareIsAbove(t *testing.T) {
	d := dice(179)
	for range 40 {
		p := d.port(10, 100, 30)
		most := new(big.Rat)
		for _, x := range p.Tides {
			re, im := rational(x.Number.Re), rational(x.Number.Im)
			most.Add(most, re.Abs(re)).Add(most, im.Abs(im))
		}
		most.Mul(most, most)
		for at := range 8 {
			if rational(must(t)(stream.Square(p, at))).Cmp(most) > 0 {
				t.Errorf("Square at %d of %s", at, p.Name)
			}
		}
	}
	// At 0 it is reached by Numbers that all point one way.
	p := h("One", q(0, 1), c("a", 2, 1, z(1, 0)), c("b", 3, 1, z(5, 0)), c("d", 4, 1, z(2, 0)))
	if !sameRatio(must(t)(stream.Square(p, 0)), q(64, 1)) {
		t.Error("Square at 0 of one way")
	}
	if x, e := stream.Reach(p); e != api.OK || x != 8 {
		t.Errorf("Reach of one way: %v, %v", e, x)
	}
}

// P17.5: between two slacks one behind the other a tick with a greater square than both stands.
func TestBetweenSlacks(t *testing.T) {
	d := dice(180)
	pairs := 0
	for range 40 {
		p := d.port(6, 9, 3)
		all, e := stream.Slacks(p, 0, 40)
		mustOf(t, e, all)
		for i := 1; i < len(all); i++ {
			one, other := rational(all[i-1].Square), rational(all[i].Square)
			greater := false
			for at := all[i-1].Last + 1; at < all[i].Tick; at++ {
				x := rational(must(t)(stream.Square(p, at)))
				greater = greater || x.Cmp(one) > 0 && x.Cmp(other) > 0
			}
			if !greater {
				t.Errorf("%s: nothing between %d and %d", p.Name, all[i-1].Last, all[i].Tick)
			}
			pairs++
		}
	}
	if pairs < 50 {
		t.Errorf("only %d pairs in all", pairs)
	}
}

package analyse_test

import (
	"slices"
	"testing"

	"slackwater/api"
)

// What follows: P23.4 to P23.6, and of the whole P2.

// fewRotors throws at most so many, of which none is wide, so that little is too long.
func (d *dice) fewRotors(most int) []api.Rotor {
	var l []api.Rotor
	for _, u := range d.rotors(2 * most) {
		if u.Far < 10 && u.Near < 10 && u.Near > -10 && len(l) < most {
			l = append(l, u)
		}
	}
	return l
}

// P23.4: of heights that are the sum of constituents Exact tells just their Numbers, the rotors in any order, and nothing is left.
func TestBack(t *testing.T) {
	d := dice(2307)
	count := map[api.Errno]int{}
	for i := range 120 {
		ticks, rotors := d.ticks(10, 40), d.rotors(6)
		if i%2 == 0 {
			from := d.below(30)
			ticks = span(from, from+len(rotors)+d.below(4))
		}
		tides := tidesOf(rotors, d.numbers(len(rotors)))
		order, places := d.permuted(rotors)
		x := given{ticks: ticks, heights: heightsOf(ticks, tides), rotors: order}
		got := calls()["Exact"](x)
		count[got.e]++
		switch {
		case got.e == api.ErrSingular && i%2 == 1:
			continue
		case got.e != api.OK:
			t.Fatalf("Exact of %v and %v: %v", ticks, order, got.e)
		}
		x.tides = got.tides
		for k, c := range tides {
			if back := x.tides[places[k]]; back.Rotor != c.Rotor || !sameGauss(back.Number, c.Number) {
				t.Errorf("Exact of %v and %v: another Number of %v", ticks, order, c.Rotor)
			}
		}
		for k, a := range must(t, "Left", x).list {
			if !sameGauss(a, z(0, 0)) {
				t.Errorf("Left of %v and %v: not 0 at %d", ticks, order, ticks[k])
			}
		}
		if !sameRatio(must(t, "Misfit", x).sum, q(0, 1)) {
			t.Errorf("Misfit of %v and %v: not 0", ticks, order)
		}
	}
	if count[api.OK] < 70 || count[api.ErrSingular] < 10 {
		t.Errorf("answered %v", count)
	}
}

// P2: as many ticks, one behind the other, as there are rotors are enough, wherever they begin, also where they lie among others.
func TestAsManyTicksAsRotors(t *testing.T) {
	for _, from := range []int{0, 1, 30} {
		for k := range 9 {
			rotors := eight()[8-k:]
			tides := tidesOf(rotors, whole(k))
			for _, ticks := range [][]int{span(from, from+k), append(span(from, from+k), from+k+20), append([]int{from}, span(from+5, from+5+k)...)} {
				x := given{ticks: ticks, heights: heightsOf(ticks, tides), rotors: rotors}
				if got := must(t, "Exact", x); !sameTides(got.tides, tides) {
					t.Errorf("Exact of %v and %d rotors: not as it should be", ticks, k)
				}
			}
		}
	}
	ticks, rotors := span(1021, 1025), []api.Rotor{o(2, 1), o(1, 2), o(2, -1), o(1, 3)}
	tides := tidesOf(rotors, whole(4))
	if got := must(t, "Exact", given{ticks: ticks, heights: heightsOf(ticks, tides), rotors: rotors}); !sameTides(got.tides, tides) {
		t.Error("Exact of the last ticks: not as it should be")
	}
}

// answered throws what Exact answers OK, and the constituents that it tells.
func (d *dice) answered(t *testing.T) given {
	t.Helper()
	rotors := d.fewRotors(4)
	from := d.below(12)
	ticks := span(from, from+len(rotors))
	for _, late := range d.ticks(4, 20) {
		ticks = append(ticks, from+len(rotors)+late)
	}
	x := given{ticks: ticks, heights: d.numbers(len(ticks)), rotors: rotors}
	x.tides = must(t, "Exact", x).tides
	return x
}

// P23.5: for each rotor the sum of the conjugates of its powers, times the rests, is 0.
func TestRestsStandApart(t *testing.T) {
	d := dice(2308)
	for range 80 {
		x := d.answered(t)
		rests := must(t, "Left", x).list
		for _, u := range x.rotors {
			var w way
			sum := none()
			for i, tick := range x.ticks {
				sum = w.plus(sum, w.times(turned(u, tick).conjugate(), planeOf(rests[i])))
			}
			if !sum.nought() {
				t.Errorf("of %v and %v: not 0 for %v", x.ticks, x.rotors, u)
			}
		}
	}
}

// P23.5: no other constituents of these rotors have a lesser Misfit.
func TestNoLesserMisfit(t *testing.T) {
	d := dice(2309)
	for range 60 {
		x := d.answered(t)
		least := rational(must(t, "Misfit", x).sum)
		if least.Sign() < 0 {
			t.Fatalf("Misfit of %v and %v is below 0", x.ticks, x.rotors)
		}
		for k := range x.tides {
			for _, off := range []api.Gauss{re(q(1, 1<<40)), im(q(-1, 1<<40)), g(q(3, 1), q(-1, 7))} {
				var w way
				other := x
				other.tides = slices.Clone(x.tides)
				other.tides[k].Number = w.plus(planeOf(x.tides[k].Number), planeOf(off)).gauss()
				if rational(must(t, "Misfit", other).sum).Cmp(least) <= 0 {
					t.Errorf("of %v and %v: no greater Misfit with another Number at %d", x.ticks, x.rotors, k)
				}
			}
		}
	}
}

// P23.6: heights that are all times one complex fraction tell Numbers that are, too; sums of heights tell the sums of Numbers.
func TestTimesAndSums(t *testing.T) {
	d := dice(2310)
	for range 60 {
		x := d.answered(t)
		y := x
		y.heights = d.numbers(len(x.ticks))
		y.tides = must(t, "Exact", y).tides
		factor := planeOf(d.numbers(1)[0])
		times, sum := x, x
		times.heights, sum.heights = nil, nil
		var w way
		for i, a := range x.heights {
			times.heights = append(times.heights, w.times(factor, planeOf(a)).gauss())
			sum.heights = append(sum.heights, w.plus(planeOf(a), planeOf(y.heights[i])).gauss())
		}
		scaled, added := must(t, "Exact", times).tides, must(t, "Exact", sum).tides
		for k, c := range x.tides {
			if !sameGauss(scaled[k].Number, w.times(factor, planeOf(c.Number)).gauss()) {
				t.Errorf("of %v and %v: not all times one at %d", x.ticks, x.rotors, k)
			}
			if !sameGauss(added[k].Number, w.plus(planeOf(c.Number), planeOf(y.tides[k].Number)).gauss()) {
				t.Errorf("of %v and %v: no sum at %d", x.ticks, x.rotors, k)
			}
		}
	}
}

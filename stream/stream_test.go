package stream_test

import (
	"math"
	"math/big"
	"testing"

	"slackwater/api"
	"slackwater/exact"
	"slackwater/gauss"
	"slackwater/height"
	"slackwater/parts"
	"slackwater/stream"
)

// P17.1, P17.4: the document's port.
func TestExamples(t *testing.T) {
	p := example()
	for at, want := range []complex128{2, 1.2} {
		if x, e := stream.Rate(p, at); e != api.OK || x != want {
			t.Errorf("Rate at %d: %v, %v", at, e, x)
		}
		if x, e := stream.Speed(p, at); e != api.OK || x != real(want) {
			t.Errorf("Speed at %d: %v, %v", at, e, x)
		}
	}
	for at, want := range []api.Ratio{q(4, 1), q(36, 25), q(196, 625), q(54756, 15625)} {
		if x := must(t)(stream.Square(p, at)); !sameRatio(x, want) {
			t.Errorf("Square at %d: %v", at, x)
		}
	}
	if x, e := stream.Reach(p); e != api.OK || x != 2 {
		t.Errorf("Reach: %v, %v", e, x)
	}
	one := h("One", q(5, 1), c("M2", 2, 1, g(q(3, 1), q(-4, 1))))
	if x, e := stream.Rate(one, 0); e != api.OK || x != 3-4i {
		t.Errorf("Rate of one at 0: %v, %v", e, x)
	}
	for _, at := range []int{0, 1, 2, 1024} {
		if x := must(t)(stream.Square(one, at)); !sameRatio(x, q(25, 1)) {
			t.Errorf("Square of one at %d: %v", at, x)
		}
	}
	if x, e := stream.Speed(one, 0); e != api.OK || x != 5 {
		t.Errorf("Speed of one at 0: %v, %v", e, x)
	}
	if x, e := stream.Reach(one); e != api.OK || x != 5 {
		t.Errorf("Reach of one: %v, %v", e, x)
	}
}

// P17.1, rule 7: the rate and its size to the bit, of fractions of much unlike sizes too.
func TestRateAndSpeedToTheBit(t *testing.T) {
	d := dice(171)
	for i := range 200 {
		p := d.port(24, 1000, []int{0, 3, 60, 400}[i%4])
		for _, at := range []int{0, 1, d.below(40)} {
			want := rateOf(p, at)
			x, e := stream.Rate(p, at)
			if y, f := height.Sum(p, at); e != api.OK || x != want || y != x || f != e {
				t.Errorf("Rate at %d of %s: %v, %v, not %v", at, p.Name, e, x, want)
			}
			speed, e := stream.Speed(p, at)
			if size := size(real(want), imag(want)); e != api.OK || speed != size || speed != parts.Abs(want) {
				t.Errorf("Speed at %d of %s: %v, %v, not %v", at, p.Name, e, speed, size)
			}
		}
	}
}

// P17.1: the square, exactly, whatever the floats would say.
func TestSquare(t *testing.T) {
	d := dice(172)
	for i := range 60 {
		p := d.port(12, 1000, []int{0, 60, 900}[i%3])
		for _, at := range []int{0, 1, d.below(12)} {
			got := must(t)(stream.Square(p, at))
			if want := fraction(squareOf(p, at)); !sameRatio(got, want) {
				t.Errorf("Square at %d of %s", at, p.Name)
			}
			sum, e := exact.Sum(p, at)
			if norm := must(t)(gauss.Norm(sum)); e != api.OK || !sameRatio(got, norm) {
				t.Errorf("Square at %d of %s is not the Norm of the sum: %v", at, p.Name, e)
			}
		}
	}
}

// P17.1: the first and the last tick, no constituents and noughts.
func TestAtTheEdges(t *testing.T) {
	wide := h("Wide", q(1, 3), c("a", 1000, 999, g(q(1, 7), q(-22, 7))))
	for _, p := range []api.Port{example(), wide, h("Still", q(-2, 3)), h("Nought", q(1, 2), c("M2", 2, 1, z(0, 0)))} {
		for _, at := range []int{0, 1023, 1024} {
			want := rateOf(p, at)
			if x, e := stream.Rate(p, at); e != api.OK || x != want {
				t.Errorf("Rate at %d of %s: %v, %v", at, p.Name, e, x)
			}
			if x, e := stream.Speed(p, at); e != api.OK || x != size(real(want), imag(want)) {
				t.Errorf("Speed at %d of %s: %v, %v", at, p.Name, e, x)
			}
			if x := must(t)(stream.Square(p, at)); !sameRatio(x, fraction(squareOf(p, at))) {
				t.Errorf("Square at %d of %s", at, p.Name)
			}
		}
		for _, at := range beyond() {
			refusedFloats(t, p.Name, p, at, api.ErrArg)
			refusedSquare(t, p.Name, p, at, api.ErrArg)
		}
	}
	full := h("Full", q(1, 24), many(24)...)
	if x, e := stream.Rate(full, 7); e != api.OK || x != rateOf(full, 7) {
		t.Errorf("Rate at 7 of 24 constituents: %v, %v", e, x)
	}
	if x := must(t)(stream.Square(full, 7)); !sameRatio(x, fraction(squareOf(full, 7))) {
		t.Error("Square at 7 of 24 constituents")
	}
}

// The mean level goes into no rate, no square and no reach, though a port is refused for it.
func TestMeanLevelIsLeftOut(t *testing.T) {
	p := example()
	for _, mean := range []api.Ratio{q(7, 3), q(-1, 1), power(500), opposite(power(-500))} {
		other := h("Other", mean, p.Tides...)
		for at := range 5 {
			x, e := stream.Rate(other, at)
			if y, _ := stream.Rate(p, at); e != api.OK || x != y {
				t.Errorf("Rate at %d: %v, %v", at, e, x)
			}
			if !sameRatio(must(t)(stream.Square(other, at)), must(t)(stream.Square(p, at))) {
				t.Errorf("Square at %d", at)
			}
		}
		if x, e := stream.Reach(other); e != api.OK || x != 2 {
			t.Errorf("Reach: %v, %v", e, x)
		}
		if l, e := stream.Slacks(other, 0, 5); e != api.OK || !sameSlacks(l, slacksOf(p, 0, 5)) {
			t.Errorf("Slacks: %v, %v", e, l)
		}
	}
	// Beyond the floats, and as long as may be: exactly it counts for nothing.
	for _, mean := range []api.Ratio{power(501), power(1024), power(65535), power(-501), power(-65535)} {
		far := h("Far", mean, p.Tides...)
		refusedFloats(t, "a far mean level", far, 1, api.ErrOver)
		if !sameRatio(must(t)(stream.Square(far, 1)), q(36, 25)) {
			t.Error("Square at 1 beside a far mean level")
		}
		if x, e := stream.Reach(far); e != api.OK || x != 2 {
			t.Errorf("Reach beside a far mean level: %v, %v", e, x)
		}
	}
}

// P17.1: what is not near is refused in floats, behind the tick, and told exactly.
func TestFarNumbers(t *testing.T) {
	for _, k := range []int{501, -501, 600, -600, 1023, 1024, 20000, -20000} {
		for key, number := range map[string]api.Gauss{"Re": g(power(k), q(0, 1)), "Im": g(q(1, 3), power(k)), "both": g(opposite(power(k)), power(k))} {
			p := h("Far", q(1, 2), m2c(), c("M2", 2, 1, number))
			refusedFloats(t, key, p, 0, api.ErrOver)
			refusedFloats(t, key, p, 1024, api.ErrOver)
			refusedFloats(t, key, p, -1, api.ErrArg)
			refusedFloats(t, key, p, 1025, api.ErrArg)
			if !sameRatio(must(t)(stream.Square(p, 2)), fraction(squareOf(p, 2))) {
				t.Errorf("Square at 2, %s, 2^%d", key, k)
			}
		}
	}
	var great, small []api.Tide
	for _, x := range many(24) {
		x.Number = g(power(500), opposite(power(500)))
		great = append(great, x)
		x.Number = g(power(-500), power(-500))
		small = append(small, x)
	}
	for _, p := range []api.Port{h("Great", power(500), great...), h("Small", power(-500), small...)} {
		for _, at := range []int{0, 3} {
			want := rateOf(p, at)
			if x, e := stream.Speed(p, at); e != api.OK || x != size(real(want), imag(want)) || x <= 0 {
				t.Errorf("Speed at %d of %s: %v, %v", at, p.Name, e, x)
			}
		}
	}
}

// P17.1, P17.2, P17.4, rule 1: the port's own errors ahead of all others.
func TestPortsThatMayNotBe(t *testing.T) {
	for key, w := range wrongPorts() {
		for _, at := range []int{0, 1, 1024, -1, 1025} {
			refusedFloats(t, key, w.p, at, w.want)
			refusedSquare(t, key, w.p, at, w.want)
		}
		for _, span := range [][2]int{{0, 5}, {2, 2}, {3, 2}, {0, 1026}, {-1, 4}} {
			refusedSlacks(t, key, w.p, span[0], span[1], w.want)
		}
		refusedReach(t, key, w.p, w.want)
	}
}

// lone is a port of one constituent.
func lone(re, im api.Ratio) api.Port { return h("Lone", q(0, 1), c("M2", 2, 1, g(re, im))) }

// long is a number of size 1 whose parts, squared, are too long: (x + i y) squared over its own size.
func long() api.Gauss {
	x, y := new(big.Int).Lsh(big.NewInt(1), 17000), new(big.Int).Exp(big.NewInt(3), big.NewInt(9000), nil)
	xx, yy, xy := new(big.Int).Mul(x, x), new(big.Int).Mul(y, y), new(big.Int).Mul(x, y)
	under := new(big.Int).Add(xx, yy)
	re, im := new(big.Rat).SetFrac(xx.Sub(xx, yy), under), new(big.Rat).SetFrac(xy.Lsh(xy, 1), under)
	return g(fraction(re), fraction(im))
}

// P17.1, rule 6: what is too long in the sum, then in the squares of its parts, then in both together.
func TestSquareTooLong(t *testing.T) {
	nought, half := q(0, 1), func(k int) api.Ratio { return fraction(new(big.Rat).Mul(big.NewRat(3, 2), rational(power(k)))) }
	greatest, unit := r(false, full(2048, 1<<32-1), ints(1)), long()
	for key, w := range map[string]struct {
		p  api.Port
		at int
	}{
		"the sum":                  {h("Long", nought, m2c(), c("M2", 2, 1, g(greatest, greatest))), 1},
		"the sum's Im":             {h("Long", nought, c("x", 2, 1, g(power(-50000), nought)), c("y", 3, 1, g(q(1, 3), r(false, ints(1), full(1300, 1<<32-1)))), c("w", 4, 1, g(nought, power(-50000)))), 0},
		"Re squared":               {lone(power(32768), nought), 0},
		"Im squared":               {lone(nought, power(32768)), 0},
		"Re's Den squared":         {lone(power(-32768), nought), 0},
		"Im's Den squared":         {lone(q(1, 2), power(-32768)), 0},
		"both together":            {lone(half(32767), half(32767)), 0},
		"both Dens together":       {lone(power(-20000), r(false, ints(1), full(1000, 1<<32-1))), 0},
		"parts of what comes to 1": {lone(unit.Re, unit.Im), 0},
		"the same at the tick 1":   {lone(unit.Re, unit.Im), 1},
	} {
		refusedSquare(t, key, w.p, w.at, api.ErrLong)
		refusedSquare(t, key, w.p, -1, api.ErrArg)
		refusedSquare(t, key, w.p, 1025, api.ErrArg)
		refusedSlacks(t, key, w.p, w.at, w.at+1, api.ErrLong)
		refusedSlacks(t, key, w.p, 2, 1, api.ErrArg)
		if l, e := stream.Slacks(w.p, w.at, w.at); e != api.OK || len(l) > 0 {
			t.Errorf("Slacks of no ticks, %s: %v", key, e)
		}
	}
	for key, p := range map[string]api.Port{
		"Re squared":         lone(power(32767), nought),
		"Im squared":         lone(nought, opposite(power(32767))),
		"Dens squared":       lone(power(-32767), power(-32767)),
		"both together":      lone(power(32767), power(32766)),
		"the greatest level": h("Long", greatest, m2()),
	} {
		if !sameRatio(must(t)(stream.Square(p, 0)), fraction(squareOf(p, 0))) {
			t.Errorf("Square at 0, %s", key)
		}
	}
}

// P17.4: to the bit, in the port's order.
func TestReachToTheBit(t *testing.T) {
	d := dice(174)
	for i := range 300 {
		p := d.port(24, 1000, []int{0, 3, 60, 800}[i%4])
		want := 0.0
		for _, x := range p.Tides {
			want = plus(want, size(nearest(x.Number.Re), nearest(x.Number.Im)))
		}
		if got, e := stream.Reach(p); e != api.OK || got != want {
			t.Errorf("Reach of %s: %v, %v, not %v", p.Name, e, got, want)
		}
	}
	tiny, nought, one := power(-53), q(0, 1), q(1, 1)
	row := func(l ...api.Ratio) api.Port {
		p := h("Row", q(0, 1), many(len(l))...)
		for i, x := range l {
			p.Tides[i].Number = []api.Gauss{g(x, nought), g(nought, opposite(x))}[i%2]
		}
		return p
	}
	for key, w := range map[string]struct {
		p    api.Port
		want float64
	}{
		"no constituents":          {h("None", q(7, 2)), 0},
		"noughts":                  {row(nought, nought), 0},
		"small ones behind":        {row(one, tiny, tiny), 1},
		"small ones ahead":         {row(tiny, tiny, one), 1 + 0x1p-52},
		"a small one on each side": {row(tiny, one, tiny), 1},
		"parts below 0":            {h("H", nought, c("a", 2, 1, z(-3, -4)), c("b", 3, 1, z(5, -12))), 18},
		"what takes itself off":    {h("H", nought, c("a", 2, 1, z(1, 0)), c("b", 2, -1, z(-1, 0))), 2},
		"below all floats":         {row(power(-1076), power(-65535)), 0},
		"the least floats":         {row(power(-1074), power(-1074)), 0x1p-1073},
		"beyond what is near":      {row(power(600), power(-600), power(1000)), 0x1p1000},
		"the greatest float":       {row(float(math.MaxFloat64)), math.MaxFloat64},
		"the greatest, and less":   {row(float(math.MaxFloat64), one, power(969)), math.MaxFloat64},
	} {
		if got, e := stream.Reach(w.p); e != api.OK || got != w.want {
			t.Errorf("%s: %v, %v, not %v", key, e, got, w.want)
		}
	}
}

// P17.4: a Number beyond the floats, a size beyond them, a sum beyond them.
func TestReachOver(t *testing.T) {
	top := float(math.MaxFloat64)
	for key, tides := range map[string][]api.Tide{
		"Re":                     {c("a", 2, 1, g(power(1024), q(0, 1)))},
		"Im":                     {c("a", 2, 1, g(q(1, 2), opposite(power(1024))))},
		"long":                   {c("a", 2, 1, g(q(1, 2), r(true, full(2048, 1<<32-1), ints(1))))},
		"the last":               append(many(23), c("a", 99, 2, g(power(1024), q(0, 1)))),
		"the first":              append([]api.Tide{c("a", 99, 2, g(power(1024), q(0, 1)))}, many(23)...),
		"just beyond":            {c("a", 2, 1, g(fraction(new(big.Rat).Add(rational(top), rational(power(970)))), q(0, 1)))},
		"a size":                 {c("a", 2, 1, g(top, top))},
		"a size, then small":     {c("a", 2, 1, g(top, opposite(top))), m2c()},
		"two together":           {c("a", 2, 1, g(top, q(0, 1))), c("b", 3, 1, g(q(0, 1), opposite(top)))},
		"half a last bit more":   {c("a", 2, 1, g(top, q(0, 1))), c("b", 3, 1, g(power(970), q(0, 1)))},
		"two sizes without ends": {c("a", 2, 1, g(top, top)), c("b", 3, 1, g(opposite(top), top))},
	} {
		refusedReach(t, key, h("Over", q(0, 1), tides...), api.ErrOver)
	}
}

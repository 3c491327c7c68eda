package stream_test

import (
	"math"
	"math/big"
	"testing"

	"slackwater/api"
	"slackwater/stream"
)

// pair are two constituents of these Numbers whose rotors are each other's conjugates.
func pair(a, b api.Gauss) (s, t api.Tide) { return c("A", 8, 3, a), c("B", 8, -3, b) }

// P17.3
func TestEllipse(t *testing.T) {
	nought, tiny := q(0, 1), power(-53)
	for key, w := range map[string]struct {
		a, b api.Gauss
		want api.Ellipse
	}{
		"one and one":          {z(1, 0), z(1, 0), api.Ellipse{Greater: 2}},
		"one and two":          {z(1, 0), z(2, 0), api.Ellipse{Greater: 3, Lesser: -1}},
		"two and one":          {z(0, -2), z(-1, 0), api.Ellipse{Greater: 3, Lesser: 1}},
		"five and thirteen":    {z(3, -4), z(-5, 12), api.Ellipse{Greater: 18, Lesser: -8}},
		"one alone":            {z(3, 4), z(0, 0), api.Ellipse{Greater: 5, Lesser: 5}},
		"the other alone":      {z(0, 0), z(-4, 3), api.Ellipse{Greater: 5, Lesser: -5}},
		"none":                 {z(0, 0), z(0, 0), api.Ellipse{}},
		"a third":              {g(q(1, 3), nought), z(0, 0), api.Ellipse{Greater: 1.0 / 3, Lesser: 1.0 / 3}},
		"rounded":              {z(1, 0), g(tiny, nought), api.Ellipse{Greater: 1, Lesser: 1 - 0x1p-53}},
		"below all floats":     {g(power(-1076), power(-9000)), g(nought, power(-65535)), api.Ellipse{}},
		"the least floats":     {g(power(-1074), nought), g(nought, power(-1074)), api.Ellipse{Greater: 0x1p-1073}},
		"the greatest float":   {g(float(math.MaxFloat64), nought), z(1, 1), api.Ellipse{Greater: math.MaxFloat64, Lesser: math.MaxFloat64}},
		"the other so great":   {g(power(969), nought), g(nought, float(-math.MaxFloat64)), api.Ellipse{Greater: math.MaxFloat64, Lesser: -math.MaxFloat64}},
		"not near":             {g(power(700), nought), g(nought, power(-700)), api.Ellipse{Greater: 0x1p700, Lesser: 0x1p700}},
		"just below the ends":  {g(power(1022), nought), g(nought, power(1022)), api.Ellipse{Greater: 0x1p1023}},
		"as long as may be":    {g(nought, r(true, full(2048, 1<<32-1), two(65535))), z(0, 0), api.Ellipse{Greater: 2, Lesser: 2}},
		"parts of unlike size": {g(q(1, 1), power(-30)), g(power(-30), q(-1, 1)), api.Ellipse{Greater: 2}},
	} {
		a, b := pair(w.a, w.b)
		if x, e := stream.Ellipse(a, b); e != api.OK || x != w.want {
			t.Errorf("%s: %v, %v, not %v", key, e, x, w.want)
		}
	}
	if x, e := stream.Ellipse(m2(), m2c()); e != api.OK || x != (api.Ellipse{Greater: 2}) {
		t.Errorf("M2, m2: %v, %v", e, x)
	}
	// Their names are not looked at against each other, nor which of both rotors goes round which way.
	if x, e := stream.Ellipse(c("K", 7, -1000, z(2, 0)), c("K", 7, 1000, z(1, 0))); e != api.OK || x != (api.Ellipse{Greater: 3, Lesser: 1}) {
		t.Errorf("one name: %v, %v", e, x)
	}
}

// P17.3, rule 7: to the bit.
func TestEllipseToTheBit(t *testing.T) {
	d := dice(175)
	for i := range 600 {
		k := []int{0, 3, 60, 800}[i%4]
		x := d.rotor(1000)
		a := api.Tide{Name: "A", Rotor: x, Number: g(d.spread(k), d.spread(k))}
		b := c("B", x.Far, -x.Near, g(d.spread(k), d.spread(k)))
		sizes := [2]float64{size(nearest(a.Number.Re), nearest(a.Number.Im)), size(nearest(b.Number.Re), nearest(b.Number.Im))}
		want := api.Ellipse{Greater: plus(sizes[0], sizes[1]), Lesser: less(sizes[0], sizes[1])}
		if got, e := stream.Ellipse(a, b); e != api.OK || got != want {
			t.Errorf("%d: %v, %v, not %v", i, e, got, want)
		}
	}
}

// P17.3, rule 1: the first one's error, then the second one's, whatever the rotors and the Numbers are.
func TestEllipseOfWhatMayNotBe(t *testing.T) {
	huge := g(power(1024), power(1024))
	for key, w := range wrongTides() {
		refusedEllipse(t, "first, "+key, w.a, c("B", 8, -3, z(1, 0)), w.want)
		refusedEllipse(t, "first, no pair, "+key, w.a, c("B", 9, 2, huge), w.want)
		refusedEllipse(t, "second, "+key, c("A", 8, -3, z(1, 0)), w.a, w.want)
		refusedEllipse(t, "second, no pair, "+key, c("A", 9, 2, huge), w.a, w.want)
		for other, v := range wrongTides() {
			refusedEllipse(t, key+", "+other, w.a, v.a, w.want)
		}
	}
}

// P17.3: no pair, ahead of Numbers beyond the floats.
func TestNoPair(t *testing.T) {
	huge := g(power(1024), power(1024))
	for _, w := range [][4]int32{{2, 1, 2, 1}, {2, -1, 2, -1}, {2, 1, 3, -1}, {2, 1, 1, -2}, {2, 1, 1, 2}, {2, 1, 4, -1}, {3, 1, 2, -1}, {3, 1, 3, 1}, {1000, 999, 999, -1000}, {1, 1000, 1, 1000}, {8, 3, 8, -1}} {
		for _, number := range []api.Gauss{z(1, 0), z(0, 0), huge} {
			a, b := c("M2", w[0], w[1], number), c("m2", w[2], w[3], number)
			refusedEllipse(t, "no pair", a, b, api.ErrPair)
			refusedEllipse(t, "no pair", b, a, api.ErrPair)
		}
	}
	refusedEllipse(t, "M2 twice", m2(), m2(), api.ErrPair)
}

// P17.3: a part beyond the floats, a size beyond them, an axis beyond them.
func TestEllipseOver(t *testing.T) {
	nought, top := q(0, 1), float(math.MaxFloat64)
	just := fraction(new(big.Rat).Add(rational(top), rational(power(970))))
	for key, number := range map[string]api.Gauss{
		"Re": g(power(1024), nought), "Im": g(nought, opposite(power(1024))), "both": g(power(2000), power(2000)), "just beyond": g(just, nought), "just beyond, below 0": g(q(1, 2), opposite(just)),
		"as long as may be": g(r(false, full(2048, 1<<32-1), ints(1)), nought), "a size": g(top, top), "a size below 0": g(opposite(top), opposite(top)),
	} {
		for _, other := range []api.Gauss{z(0, 0), z(1, -1), number, g(top, top)} {
			a, b := pair(number, other)
			refusedEllipse(t, key, a, b, api.ErrOver)
			a, b = pair(other, number)
			refusedEllipse(t, key, a, b, api.ErrOver)
		}
	}
	for key, w := range map[string][2]api.Gauss{
		"both together":   {g(top, nought), g(nought, top)},
		"half a last bit": {g(top, nought), g(power(970), nought)},
		"two halves":      {g(power(1023), nought), g(nought, opposite(power(1023)))},
	} {
		a, b := pair(w[0], w[1])
		refusedEllipse(t, key, a, b, api.ErrOver)
		a, b = pair(w[1], w[0])
		refusedEllipse(t, key, a, b, api.ErrOver)
	}
}

// P17.5: changed about it has the same Greater, and the Lesser's negative.
func TestEllipseChangedAbout(t *testing.T) {
	d := dice(176)
	for i := range 200 {
		k := []int{0, 5, 900}[i%3]
		x := d.rotor(1000)
		a := api.Tide{Name: "A", Rotor: x, Number: g(d.spread(k), d.spread(k))}
		b := c("B", x.Far, -x.Near, g(d.spread(k), d.spread(k)))
		there, e := stream.Ellipse(a, b)
		mustOf(t, e, there)
		back, e := stream.Ellipse(b, a)
		if mustOf(t, e, back); back.Greater != there.Greater || back.Lesser != -there.Lesser {
			t.Errorf("%d: %v and %v", i, there, back)
		}
		if math.Abs(there.Lesser) > there.Greater {
			t.Errorf("%d: %v", i, there)
		}
	}
}

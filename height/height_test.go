package height_test

import (
	"math"
	"math/big"
	"testing"

	"slackwater/api"
	"slackwater/exact"
	"slackwater/height"
	floats "slackwater/real"
)

// example is the document's port.
func example() api.Port { return h("Hull", q(1, 1), c("M2", 8, 1, z(2, 0))) }

// power is 2 to the power k, k below 0 too.
func power(k int) api.Ratio {
	if k < 0 {
		return r(false, ints(1), two(-k))
	}
	return r(false, two(k), ints(1))
}

// opposite is the fraction with the other sign.
func opposite(a api.Ratio) api.Ratio {
	a.Neg = !a.Neg && len(a.Num) > 0
	return a
}

// shifted is a fraction and so much of it together: a and a times 2^k, k below 0; down: less that.
func shifted(a api.Ratio, k int, down bool) api.Ratio {
	f, part := rational(a), rational(power(k))
	part.Mul(part, f)
	if down {
		part.Neg(part)
	}
	return fraction(f.Add(f, part))
}

// nearFractions may stand in a near port, the outermost ones among them.
func nearFractions() []api.Ratio {
	return []api.Ratio{
		q(0, 1), q(1, 1), q(-5, 3), power(500), power(-500), power(499), power(-499), shifted(power(500), -1, true), shifted(power(500), -60, true), shifted(power(500), -9000, true), shifted(power(-500), -1, false), shifted(power(-500), -60, false), shifted(power(-500), -9000, false),
		fraction(new(big.Rat).SetFrac(natural(full(2048, 1<<32-1)), natural(full(2048, 1<<32-2)))),
	}
}

// farFractions may not; the nearest floats of some of them would do.
func farFractions() []api.Ratio {
	return []api.Ratio{
		power(501), power(-501), shifted(power(500), -1, false), shifted(power(500), -52, false), shifted(power(500), -60, false), shifted(power(500), -9000, false), shifted(power(-500), -1, true), shifted(power(-500), -53, true), shifted(power(-500), -60, true), shifted(power(-500), -9000, true),
		power(1023), power(1024), power(65535), power(-1022), power(-1074), power(-1075), power(-65535), fraction(new(big.Rat).Mul(big.NewRat(1, 3), rational(power(-600)))), r(false, full(2048, 1<<32-1), ints(1)), r(false, ints(1), full(2048, 1<<32-1)),
	}
}

// places are ports in which a fraction stands at a place each.
func places(a api.Ratio) map[string]api.Port {
	last := append(many(23), c("last", 999, 2, g(q(1, 2), a)))
	return map[string]api.Port{
		"alone":       h("Hull", a),
		"mean level":  h("Hull", a, m2()),
		"Re":          h("Hull", q(1, 2), c("M2", 2, 1, g(a, q(0, 1)))),
		"Im":          h("Hull", q(0, 1), c("M2", 2, 1, g(q(1, 3), a))),
		"a second Re": h("Hull", q(1, 2), m2(), c("S2", 3, 1, g(a, a)), m2c()),
		"last":        h("Hull", q(-1, 2), last...),
	}
}

// beyond are no ticks of heights.
func beyond() []int {
	return []int{-1, -2, -1024, -1025, 1025, 1026, 2048, 1 << 20, 1 << 32, -1 << 32, 1<<32 + 1, math.MaxInt, math.MinInt}
}

// P16.1, P16.2: up to the ends, exactly, of either sign.
func TestNear(t *testing.T) {
	for i, a := range nearFractions() {
		for _, a := range []api.Ratio{a, opposite(a)} {
			for key, p := range places(a) {
				if e := height.Near(p); e != api.OK {
					t.Errorf("fraction %d, %s: %v", i, key, e)
				}
				if x := told(t)(height.At(p, 1)); x != off(p, 1) {
					t.Errorf("At 1, fraction %d, %s: %v, not %v", i, key, x, off(p, 1))
				}
				if s, e := height.Sum(p, 1); e != api.OK || s != total(p, 1) {
					t.Errorf("Sum 1, fraction %d, %s: %v, %v", i, key, e, s)
				}
			}
		}
	}
	if e := height.Near(example()); e != api.OK {
		t.Error(e)
	}
}

// P16.1 to P16.3: what is not near, behind ticks and spans that may not be.
func TestFar(t *testing.T) {
	for i, a := range farFractions() {
		for _, a := range []api.Ratio{a, opposite(a)} {
			for key, p := range places(a) {
				if e := height.Near(p); e != api.ErrOver {
					t.Errorf("fraction %d, %s: %v", i, key, e)
				}
				if len(a.Num)+len(a.Den) < 300 {
					refused(t, key, p, i, i, i+2, api.ErrOver)
				}
			}
		}
	}
	p := h("Far", power(501), m2())
	refused(t, "at the end", p, 1024, 1025, 1025, api.ErrOver)
	for _, at := range beyond() {
		refused(t, "far", p, at, at, at-1, api.ErrArg)
		refused(t, "far", p, at, 1, 0, api.ErrArg)
	}
}

// P16.1 to P16.3, rule 1: the port's own errors ahead of all others.
func TestPortsThatMayNotBe(t *testing.T) {
	for key, w := range wrongPorts() {
		if e := height.Near(w.p); e != w.want {
			t.Errorf("Near, %s: %v, not %v", key, e, w.want)
		}
		refused(t, key, w.p, 0, 0, 3, w.want)
		refused(t, key, w.p, -1, 3, 2, w.want)
		refused(t, key, w.p, 1025, 0, 1026, w.want)
	}
	huge := c("W", 8, 3, g(power(600), power(-600)))
	for key, w := range map[string]wrongPort{
		"far, a name":          {h("1", power(501), huge), api.ErrName},
		"far, long":            {h("Far", power(501), huge, c("L", 2, 1, g(r(false, full(2049, 1), ints(1)), q(0, 1)))), api.ErrLong},
		"far, not in one form": {h("Far", power(501), huge, c("L", 2, 1, g(q(1, 1), r(false, ints(2), ints(4))))), api.ErrNormal},
		"far, one twice":       {h("Far", power(-501), huge, huge), api.ErrThere},
		"far, no rotor":        {h("Far", power(-501), huge, c("M2", 1, 1, z(1, 0))), api.ErrRotor},
	} {
		if e := height.Near(w.p); e != w.want {
			t.Errorf("Near, %s: %v, not %v", key, e, w.want)
		}
		refused(t, key, w.p, 0, 0, 3, w.want)
		refused(t, key, w.p, -1, 3, 2, w.want)
	}
}

// P16.2: the document's port; the bound is the same at each tick.
func TestAtAndSumOfTheExample(t *testing.T) {
	bound := next(15 * 0x1p-50)
	for at, want := range []float64{3, 2.9384615384615387} {
		if x := told(t)(height.At(example(), at)); x.Height != want || x.Bound != bound {
			t.Errorf("At %d: %v", at, x)
		}
	}
	if s, e := height.Sum(example(), 0); e != api.OK || s != 2 {
		t.Errorf("Sum 0: %v, %v", e, s)
	}
	hull := h("Hull", q(3, 2), c("M2", 2, 1, z(1, 0)))
	if x := told(t)(height.At(hull, 0)); x.Height != 2.5 || x.Bound != next(2.5*5*0x1p-50) {
		t.Errorf("At 0: %v", x)
	}
	hull = h("Hull", q(3, 2), c("M2", 2, 1, z(1, 0)), c("m2", 2, -1, z(1, 0)))
	if s, e := height.Sum(hull, 1); e != api.OK || s != 1.2 {
		t.Errorf("Sum 1: %v, %v", e, s)
	}
}

// P16.2, rule 7: each step to the bit, in the port's order, from fractions of much unlike sizes too.
func TestAtAndSumToTheBit(t *testing.T) {
	d := dice(161)
	for i := range 260 {
		p := d.port(24, []int{0, 3, 60, 400}[i%4])
		for _, at := range []int{0, 1, d.below(40)} {
			if x, want := told(t)(height.At(p, at)), off(p, at); x != want {
				t.Errorf("At %d of %s: %v, not %v", at, p.Name, x, want)
			}
			s, e := height.Sum(p, at)
			if want := total(p, at); e != api.OK || s != want {
				t.Errorf("Sum at %d of %s: %v, %v, not %v", at, p.Name, e, s, want)
			}
		}
	}
}

// P16.2: the tick 1,024 is told, those beyond are not; nor are ticks below 0, though a rotor has such powers.
func TestAtTheEdges(t *testing.T) {
	wide := h("Wide", q(1, 3), c("a", 1000, 999, g(q(1, 7), q(-22, 7))), c("b", 999, -1000, g(q(1<<40, 3), q(5, 1<<40))), c("d", 1, 1000, z(3, -1)), c("f", 1000, -1, z(0, 1)))
	for _, p := range []api.Port{example(), wide, h("Still", q(-2, 3)), h("Nought", q(0, 1), c("M2", 2, 1, z(0, 0)))} {
		for _, at := range []int{1023, 1024} {
			if x, want := told(t)(height.At(p, at)), off(p, at); x != want {
				t.Errorf("At %d of %s: %v, not %v", at, p.Name, x, want)
			}
			if s, e := height.Sum(p, at); e != api.OK || s != total(p, at) {
				t.Errorf("Sum at %d of %s: %v, %v", at, p.Name, e, s)
			}
		}
		for _, at := range beyond() {
			refused(t, p.Name, p, at, 3, 2, api.ErrArg)
		}
	}
}

// P16.2: the bound of no constituents and of 24; noughts have one above 0; the sizes count, and the order in which they are added.
func TestBound(t *testing.T) {
	tiny, least := power(-53), math.SmallestNonzeroFloat64
	full := many(24)
	for i := range full {
		full[i].Number = z(int64(1-2*(i%2)), int64(i%3-1))
	}
	for key, w := range map[string]struct {
		p    api.Port
		want float64
	}{
		"a mean level":                 {h("H", q(3, 2)), next(6 * 0x1p-50)},
		"a mean level below 0":         {h("H", q(-3, 2)), next(6 * 0x1p-50)},
		"a nought":                     {h("H", q(0, 1)), least},
		"noughts":                      {h("H", q(0, 1), c("a", 2, 1, z(0, 0)), c("b", 3, 1, z(0, 0))), least},
		"parts below 0":                {h("H", q(0, 1), c("a", 2, 1, z(-3, -4))), next(7 * 5 * 0x1p-50)},
		"what takes itself off":        {h("H", q(1, 1), c("a", 2, 1, z(-1, 0)), c("b", 3, 1, z(0, 1)), c("d", 4, 1, z(0, -1))), next(4 * 7 * 0x1p-50)},
		"24 constituents":              {h("H", q(0, 1), full...), next(40 * 28 * 0x1p-50)},
		"small ones ahead of the mean": {h("H", q(1, 1), c("a", 2, 1, g(tiny, tiny))), next((1 + 0x1p-52) * 5 * 0x1p-50)},
		"small ones behind a great Re": {h("H", tiny, c("a", 2, 1, g(q(1, 1), tiny))), next(5 * 0x1p-50)},
		"small ones behind a great Im": {h("H", tiny, c("a", 2, 1, g(tiny, q(1, 1))), c("b", 3, 1, g(tiny, tiny))), next(6 * 0x1p-50)},
		"the greatest of all":          {h("H", power(500), c("a", 2, 1, g(power(500), opposite(power(500))))), next(3 * 5 * 0x1p450)},
		"the least of all":             {h("H", power(-500)), next(4 * 0x1p-550)},
	} {
		for _, at := range []int{0, 1, 7} {
			if x := told(t)(height.At(w.p, at)); x.Bound != w.want {
				t.Errorf("%s, at %d: %v, not %v", key, at, x.Bound, w.want)
			}
		}
	}
}

// P16.2: the mean level is the first, and constituents are added in their order.
func TestOrderOfTheSum(t *testing.T) {
	tiny := power(-53)
	for key, w := range map[string]struct {
		p      api.Port
		height float64
		sum    complex128
	}{
		"small ones behind the mean level": {h("H", q(1, 1), c("a", 2, 1, g(tiny, q(0, 1))), c("b", 3, 1, g(tiny, q(0, 1)))), 1, 0x1p-52},
		"small ones ahead":                 {h("H", tiny, c("a", 2, 1, g(tiny, q(0, 1))), c("b", 3, 1, z(1, 0))), 1 + 0x1p-52, 1},
		"small ones in the middle":         {h("H", q(0, 1), c("a", 2, 1, z(1, 1)), c("b", 3, 1, g(tiny, tiny)), c("d", 4, 1, z(-1, -1))), 0, 0},
		"small ones at last":               {h("H", q(0, 1), c("a", 2, 1, z(1, 1)), c("b", 3, 1, z(-1, -1)), c("d", 4, 1, g(tiny, tiny))), 0x1p-53, 0x1p-53 + 0x1p-53i},
	} {
		x := told(t)(height.At(w.p, 0))
		s, e := height.Sum(w.p, 0)
		if x.Height != w.height || s != w.sum || e != api.OK {
			t.Errorf("%s: %v, %v, %v", key, x.Height, s, e)
		}
	}
}

// P16.4
func TestLower(t *testing.T) {
	inf, no := math.Inf(1), math.NaN()
	up := func(height, bound float64) api.Off { return api.Off{Height: height, Bound: bound} }
	for i, w := range []struct {
		x, y api.Off
		want bool
	}{
		{up(1, 0.25), up(2, 0.25), true}, {up(1, 0.5), up(2, 0.5), false}, {up(2, 0.25), up(1, 0.25), false}, {up(1, 0), up(1, 0), false}, {up(1, 0), up(next(1), 0), true}, {up(-2, 0.25), up(-1, 0.5), true},
		{up(1, 0.75), up(2, 0.125), true}, {up(1, 0.875), up(2, 0.125), false}, {up(1, 0.125), up(2, 0.75), true}, {up(1, 0), up(2, 1), false}, {up(1, 1), up(2, 0), false}, {up(0, 0), up(math.Copysign(0, -1), 0), false},
		// Each step is rounded by itself.
		{up(1, 0x1p-54), up(next(1), 0), true}, {up(1, 0), up(1, -0x1p-54), false}, {up(1, 0x1p-53), up(next(1), 0x1p-53), false}, {up(1, -0x1p-53), up(1, 0), true}, {up(1, -0x1p-54), up(1, 0), false}, {up(0x1p53, 1), up(0x1p53+2, 1), false}, {up(0x1p53, 1), up(0x1p53+4, 1), true},
		// Of any reals.
		{up(2, -1), up(1, -1), true}, {up(-inf, 0), up(0, 0), true}, {up(0, 0), up(inf, 0), true}, {up(-inf, 1), up(inf, 1), true}, {up(-inf, 1), up(-inf, 1), false}, {up(inf, 0), up(inf, 0), false}, {up(0, inf), up(1, 0), false}, {up(0, 0), up(1, inf), false}, {up(0, -inf), up(1, 0), true}, {up(-inf, inf), up(1, 0), false}, {up(0, 0), up(inf, inf), false},
		{up(math.MaxFloat64, math.MaxFloat64), up(inf, 0), false}, {up(math.MaxFloat64, 0), up(inf, 0), true}, {up(-math.MaxFloat64, -math.MaxFloat64), up(-math.MaxFloat64, 0), true},
		{up(no, 0), up(1, 0), false}, {up(0, no), up(1, 0), false}, {up(0, 0), up(no, 0), false}, {up(0, 0), up(1, no), false}, {up(no, no), up(no, no), false}, {up(-inf, no), up(inf, 0), false}, {up(-inf, 0), up(inf, no), false},
	} {
		if got := height.Lower(w.x, w.y); got != w.want {
			t.Errorf("%d: Lower(%v, %v): %v", i, w.x, w.y, got)
		}
	}
}

// P16.5, P4: no height is farther off than its bound, and what is surely lower is exactly lower.
func TestBoundHolds(t *testing.T) {
	d := dice(165)
	for i := range 120 {
		p := d.port(24, []int{0, 20, 200, 400}[i%4])
		var offs []api.Off
		var levels []api.Ratio
		for at := range 6 {
			x := told(t)(height.At(p, at))
			exactly, e := exact.At(p, at)
			if e != api.OK {
				t.Fatal(e)
			}
			if ok, e := floats.Within(x.Height, exactly, x.Bound); !ok || e != api.OK {
				t.Errorf("At %d of %s: farther off than %v", at, p.Name, x.Bound)
			}
			offs, levels = append(offs, x), append(levels, exactly)
		}
		for j, x := range offs {
			for k, y := range offs {
				lower := height.Lower(x, y)
				if lower && rational(levels[j]).Cmp(rational(levels[k])) >= 0 {
					t.Errorf("%s: %d is said to be lower than %d", p.Name, j, k)
				}
				if lower && height.Lower(y, x) {
					t.Errorf("%s: %d and %d are both lower", p.Name, j, k)
				}
			}
		}
	}
}

// P16.5, P4: at late ticks, where the powers are long, too.
func TestBoundHoldsLate(t *testing.T) {
	d := dice(166)
	for range 8 {
		p := d.port(6, 10)
		for _, at := range []int{500, 1024} {
			x := told(t)(height.At(p, at))
			far := new(big.Rat).Sub(new(big.Rat).SetFloat64(x.Height), level(p, at))
			if far.Abs(far).Cmp(new(big.Rat).SetFloat64(x.Bound)) > 0 {
				t.Errorf("At %d of %s: farther off than %v", at, p.Name, x.Bound)
			}
		}
	}
}

// conjugate is a constituent's other half, under another name.
func conjugate(x api.Tide) api.Tide {
	return c(x.Name+"c", x.Rotor.Far, -x.Rotor.Near, g(x.Number.Re, opposite(x.Number.Im)))
}

// P16.5, P6: a constituent and directly behind it its conjugate make real sums, pair by pair.
func TestRealSums(t *testing.T) {
	d := dice(167)
	for i := range 60 {
		var tides []api.Tide
		for j, x := range many(1 + i%12) {
			x.Rotor.Near = int32(1 - 2*(i%2))
			x.Number = g(d.spread(20*(i%4)), d.spread(20*(i%4)))
			tides = append(tides, x, conjugate(x))
			if j == i {
				break
			}
		}
		p := h("Pairs", d.fraction(), tides...)
		for _, at := range []int{0, 1, 2, d.below(200)} {
			if s, e := height.Sum(p, at); e != api.OK || imag(s) != 0 {
				t.Errorf("%d pairs at %d: %v, %v", len(tides)/2, at, e, s)
			}
		}
	}
	for _, x := range []api.Tide{m2(), c("K", 1000, 999, g(q(-1, 3), q(22, 7))), c("x", 1, 1000, z(0, 1)), c("y", 999, -2, z(0, 0))} {
		for _, at := range []int{0, 1, 1023, 1024} {
			if s, e := height.Sum(h("Pair", q(1, 2), x, conjugate(x)), at); e != api.OK || imag(s) != 0 {
				t.Errorf("%s and its conjugate at %d: %v, %v", x.Name, at, e, s)
			}
		}
	}
}

package port_test

import (
	"math"
	"math/big"
	"testing"

	"slackwater/api"
	"slackwater/port"
)

// P14.4
func TestConj(t *testing.T) {
	ok := must(t)
	for _, w := range []struct{ p, want api.Port }{
		{h("Hull", q(-3, 2)), h("Hull", q(-3, 2))},
		{h("Hull", q(-3, 2), m2()), h("Hull", q(-3, 2), c("M2", 2, -1, g(q(1, 2), q(0, 1))))},
		{h("H", q(0, 1), c("a", 1, -1000, z(3, 4)), c("b", 1000, 1, z(0, -5)), c("c", 3, 2, z(0, 0))), h("H", q(0, 1), c("a", 1, 1000, z(3, -4)), c("b", 1000, -1, z(0, 5)), c("c", 3, -2, z(0, 0)))},
	} {
		if got := ok(port.Conj(w.p)); !same(got, w.want) {
			t.Errorf("Conj of %v: %v", w.p, got)
		}
	}
}

// P14.4, P14.7: Conj of Conj is the port.
func TestConjOfConj(t *testing.T) {
	ok := must(t)
	d := dice(41)
	for _, p := range thrown(&d, 100) {
		got := ok(port.Conj(p))
		if got.Name != p.Name || !sameRatio(got.Mean, p.Mean) || len(got.Tides) != len(p.Tides) {
			t.Fatalf("Conj of %s", p.Name)
		}
		for i, x := range p.Tides {
			im := x.Number.Im
			im.Neg = !im.Neg && len(im.Num) > 0
			if want := c(x.Name, x.Rotor.Far, -x.Rotor.Near, g(x.Number.Re, im)); !sameTide(got.Tides[i], want) {
				t.Errorf("Conj of %s at %d", p.Name, i)
			}
		}
		if back := ok(port.Conj(got)); !same(back, p) {
			t.Errorf("Conj of Conj of %s", p.Name)
		}
	}
}

// turned is a constituent's number times its rotor's power t, by the library's whole numbers: (Far + i Near) to 2t, over the square of its size to t.
func turned(x api.Tide, t int) api.Gauss {
	far, near := big.NewInt(int64(x.Rotor.Far)), big.NewInt(int64(x.Rotor.Near))
	if t < 0 {
		near, t = new(big.Int).Neg(near), -t
	}
	times := func(a, b *big.Int) *big.Int { return new(big.Int).Mul(a, b) }
	top, side, under := big.NewInt(1), big.NewInt(0), big.NewInt(1)
	for range 2 * t {
		top, side = new(big.Int).Sub(times(top, far), times(side, near)), new(big.Int).Add(times(top, near), times(side, far))
	}
	norm := new(big.Int).Add(times(far, far), times(near, near))
	for range t {
		under = times(under, norm)
	}
	cos, sin := new(big.Rat).SetFrac(top, under), new(big.Rat).SetFrac(side, under)
	re, im := rational(x.Number.Re), rational(x.Number.Im)
	part := func(a, b *big.Rat) *big.Rat { return new(big.Rat).Mul(a, b) }
	return g(fraction(new(big.Rat).Sub(part(re, cos), part(im, sin))), fraction(new(big.Rat).Add(part(re, sin), part(im, cos))))
}

// P14.4
func TestMoved(t *testing.T) {
	ok := must(t)
	one := h("Hull", q(3, 2), m2())
	for by, want := range map[int]api.Gauss{0: g(q(1, 2), q(0, 1)), 1: g(q(3, 10), q(2, 5)), 2: g(q(-7, 50), q(12, 25)), -1: g(q(3, 10), q(-2, 5)), -2: g(q(-7, 50), q(-12, 25))} {
		if got := ok(port.Moved(one, by)); !same(got, h("Hull", q(3, 2), c("M2", 2, 1, want))) {
			t.Errorf("Moved by %d: %v", by, got)
		}
	}
	d := dice(4)
	for _, by := range []int{0, 1, -1, 2, 3, -7, 10, -24, 60} {
		for range 6 {
			p := d.port()
			want := h(p.Name, p.Mean)
			for _, x := range p.Tides {
				x.Number = turned(x, by)
				want.Tides = append(want.Tides, x)
			}
			if got := ok(port.Moved(p, by)); !same(got, want) {
				t.Errorf("Moved of %s by %d", p.Name, by)
			}
		}
	}
}

// P14.4: the edges, -1,024 and 1,024, whether there are constituents or not.
func TestMovedAtTheEdges(t *testing.T) {
	ok := must(t)
	p := h("Hull", q(-3, 2), c("M2", 2, 1, z(1, -2)), c("K1", 1000, -999, z(0, 3)), c("N", 1, 3, z(0, 0)))
	for _, by := range []int{1024, -1024, 1023} {
		want := h(p.Name, p.Mean)
		for _, x := range p.Tides {
			x.Number = turned(x, by)
			want.Tides = append(want.Tides, x)
		}
		if got := ok(port.Moved(p, by)); !same(got, want) {
			t.Errorf("Moved by %d", by)
		}
		if got := ok(port.Moved(h("Hull", q(-3, 2)), by)); !same(got, h("Hull", q(-3, 2))) {
			t.Errorf("Moved by %d without constituents: %v", by, got)
		}
	}
	long := h("Long", q(0, 1), c("M2", 2, 1, g(greatest(), greatest())))
	for _, by := range []int{1025, -1025, 2048, -2048, 1 << 20, 1 << 32, -1 << 32, 1<<32 + 1, math.MaxInt, math.MinInt} {
		for _, x := range []api.Port{p, h("Hull", q(-3, 2)), long} {
			got, e := port.Moved(x, by)
			refused(t, "Moved too far", got, e, api.ErrArg)
		}
	}
}

// P14.4, rule 6: what is too long on the way is refused, even where the number would not be.
func TestMovedTooLong(t *testing.T) {
	under := r(false, ints(1), full(2048, 1<<32-1))
	k := r(false, two(65533), ints(1))
	four, three := fraction(new(big.Rat).Mul(rational(k), big.NewRat(4, 1))), fraction(new(big.Rat).Mul(rational(k), big.NewRat(3, 1)))
	for key, x := range map[string]api.Tide{
		"Re":                    c("M2", 2, 1, g(greatest(), greatest())),
		"a Den":                 c("M2", 2, 1, g(under, q(0, 1))),
		"Im's Den":              c("M2", 2, 1, g(q(0, 1), under)),
		"a product on the way":  c("M2", 2, 1, g(four, three)),
		"the greatest, by 7/25": c("M2", 4, 3, g(r(false, full(2048, 1<<32-2), ints(1)), q(0, 1))),
	} {
		for _, tides := range [][]api.Tide{{x}, {c("a", 3, 1, z(1, 1)), x}, {x, c("a", 3, 1, z(1, 1))}} {
			got, e := port.Moved(h("Long", q(0, 1), tides...), 1)
			refused(t, "Moved with too long "+key, got, e, api.ErrLong)
		}
		p := h("Long", q(0, 1), x)
		if got := must(t)(port.Moved(p, 0)); !same(got, p) {
			t.Errorf("Moved by 0 with %s", key)
		}
	}
	// The mean level is not reckoned with, and a common divisor is taken out ahead of looking how long it is.
	p := h("Long", greatest(), c("M2", 2, 1, g(greatest(), q(0, 1))))
	got := must(t)(port.Moved(p, 1))
	if !sameRatio(got.Mean, greatest()) || !sameTide(got.Tides[0], c("M2", 2, 1, turned(p.Tides[0], 1))) {
		t.Error("Moved of the greatest by 3/5 and 4/5 i")
	}
}

// P14.7: there and back; by s and then by t is by both together.
func TestMovedAndMoved(t *testing.T) {
	ok := must(t)
	d := dice(77)
	for range 25 {
		p := d.port()
		s, u := d.below(61)-30, d.below(61)-30
		there := ok(port.Moved(p, s))
		if back := ok(port.Moved(there, -s)); !same(back, p) {
			t.Errorf("Moved of %s by %d and back", p.Name, s)
		}
		if !same(ok(port.Moved(there, u)), ok(port.Moved(p, s+u))) {
			t.Errorf("Moved of %s by %d and %d", p.Name, s, u)
		}
		conj := ok(port.Conj(p))
		if !same(ok(port.Conj(there)), ok(port.Moved(conj, s))) {
			t.Errorf("Conj of Moved of %s by %d", p.Name, s)
		}
	}
	p := h("Hull", q(3, 2), m2(), c("K1", 999, -1000, z(2, 7)))
	if got := ok(port.Moved(ok(port.Moved(p, 1024)), -1024)); !same(got, p) {
		t.Error("Moved by 1,024 and back")
	}
	if got := ok(port.Moved(ok(port.Moved(p, 1000)), 24)); !same(got, ok(port.Moved(p, 1024))) {
		t.Error("Moved by 1,000 and 24")
	}
}

// P14.5
func TestReal(t *testing.T) {
	long := c("L", 3, 2, g(greatest(), greatest()))
	longer := c("Lc", 3, -2, g(greatest(), r(true, full(2048, 1<<32-1), ints(1))))
	for key, w := range map[string]struct {
		tides []api.Tide
		want  bool
	}{
		"none":                         {nil, true},
		"one":                          {[]api.Tide{m2()}, false},
		"one of 0":                     {[]api.Tide{c("M2", 2, 1, z(0, 0))}, false},
		"one that is real":             {[]api.Tide{c("M2", 1, 2, z(5, 0))}, false},
		"a pair":                       {[]api.Tide{m2(), m2c()}, true},
		"a pair, the other way":        {[]api.Tide{m2c(), m2()}, true},
		"a pair of 0":                  {[]api.Tide{c("M2", 2, 1, z(0, 0)), c("M", 2, -1, z(0, 0))}, true},
		"a complex pair":               {[]api.Tide{c("M2", 2, 1, z(3, 4)), c("M", 2, -1, z(3, -4))}, true},
		"the same number":              {[]api.Tide{c("M2", 2, 1, z(3, 4)), c("M", 2, -1, z(3, 4))}, false},
		"the opposite number":          {[]api.Tide{c("M2", 2, 1, z(3, 4)), c("M", 2, -1, z(-3, -4))}, false},
		"another Re":                   {[]api.Tide{c("M2", 2, 1, z(3, 4)), c("M", 2, -1, z(2, -4))}, false},
		"Re of the other sign":         {[]api.Tide{c("M2", 2, 1, z(3, 0)), c("M", 2, -1, z(-3, 0))}, false},
		"another Den":                  {[]api.Tide{c("M2", 2, 1, g(q(1, 3), q(1, 2))), c("M", 2, -1, g(q(1, 3), q(-1, 3)))}, false},
		"another rotor":                {[]api.Tide{c("M2", 2, 1, z(3, 4)), c("M", 3, -1, z(3, -4))}, false},
		"the rotor's other places":     {[]api.Tide{c("M2", 2, 1, z(3, 4)), c("M", 1, -2, z(3, -4))}, false},
		"a pair and one":               {[]api.Tide{m2(), m2c(), c("S2", 3, 1, z(1, 0))}, false},
		"one and a pair":               {[]api.Tide{c("S2", 3, 1, z(1, 0)), m2(), m2c()}, false},
		"one within a pair":            {[]api.Tide{m2(), c("S2", 3, -1, z(1, 0)), m2c()}, false},
		"two pairs":                    {[]api.Tide{m2(), m2c(), long, longer}, true},
		"two pairs in each other":      {[]api.Tide{m2(), long, m2c(), longer}, true},
		"two pairs around one another": {[]api.Tide{long, m2(), m2c(), longer}, true},
		"two pairs, crossed":           {[]api.Tide{c("a", 2, 1, z(0, 1)), c("b", 2, -1, z(0, -2)), c("c", 3, 1, z(0, 2)), c("d", 3, -1, z(0, -1))}, false},
		"two pairs, one wrong":         {[]api.Tide{m2(), m2c(), c("c", 3, 1, z(0, 2)), c("d", 3, -1, z(0, 2))}, false},
	} {
		if is, e := port.Real(h("Hull", q(-7, 3), w.tides...)); is != w.want || e != api.OK {
			t.Errorf("Real of %s: %v %v", key, is, e)
		}
	}
}

// both is a port and its Conj on one list, under unlike names.
func both(t *testing.T, p api.Port) api.Port {
	t.Helper()
	all := p
	for _, x := range must(t)(port.Conj(p)).Tides {
		x.Name += "c"
		all = must(t)(port.With(all, x))
	}
	return all
}

// P14.7: a port and its Conj make a Real one, moved or not; without one of them they don't.
func TestPortAndConjAreReal(t *testing.T) {
	d := dice(5)
	for _, k := range []int{0, 1, 2, 5, 12} {
		p := h("Hull", d.fraction())
		for _, x := range many(k) {
			x.Number = g(d.fraction(), d.fraction())
			p.Tides = append(p.Tides, x)
		}
		all := both(t, p)
		for _, x := range []api.Port{all, must(t)(port.Moved(all, 5)), must(t)(port.Conj(all))} {
			if is, e := port.Real(x); !is || e != api.OK {
				t.Errorf("Real of %d and their conjugates: %v %v", k, is, e)
			}
		}
		for _, x := range all.Tides {
			if is, e := port.Real(must(t)(port.Without(all, x.Name))); is || e != api.OK {
				t.Errorf("Real of %d and their conjugates without %s: %v %v", k, x.Name, is, e)
			}
		}
		imaginary(t, all)
	}
}

// imaginary looks whether the imaginary parts come to 0 at ticks from 0 on (P6), by what Moved tells.
func imaginary(t *testing.T, p api.Port) {
	t.Helper()
	for tick := range 8 {
		sum := new(big.Rat)
		for _, x := range must(t)(port.Moved(p, tick)).Tides {
			sum.Add(sum, rational(x.Number.Im))
		}
		if sum.Sign() != 0 {
			t.Errorf("the imaginary part at %d is %v", tick, sum)
		}
	}
}

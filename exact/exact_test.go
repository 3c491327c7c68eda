package exact_test

import (
	"math"
	"math/big"
	"slices"
	"testing"

	"slackwater/api"
	"slackwater/exact"
	"slackwater/gauss"
	"slackwater/port"
	"slackwater/ratio"
	"slackwater/rotor"
)

// example is the document's port.
func example() api.Port { return h("Hull", q(1, 2), c("M2", 2, 1, z(5, 0))) }

// turned is a constituent's number at a tick, by the library's whole numbers: (Far + i Near) to 2t, over the square of its size to t.
func turned(x api.Tide, t int) (re, im *big.Rat) {
	far, near := big.NewInt(int64(x.Rotor.Far)), big.NewInt(int64(x.Rotor.Near))
	times := func(a, b *big.Int) *big.Int { return new(big.Int).Mul(a, b) }
	top, side := big.NewInt(1), big.NewInt(0)
	for range 2 * t {
		top, side = new(big.Int).Sub(times(top, far), times(side, near)), new(big.Int).Add(times(top, near), times(side, far))
	}
	norm := new(big.Int).Add(times(far, far), times(near, near))
	under := norm.Exp(norm, big.NewInt(int64(t)), nil)
	cos, sin := new(big.Rat).SetFrac(top, under), new(big.Rat).SetFrac(side, under)
	a, b := rational(x.Number.Re), rational(x.Number.Im)
	part := func(a, b *big.Rat) *big.Rat { return new(big.Rat).Mul(a, b) }
	return new(big.Rat).Sub(part(a, cos), part(b, sin)), new(big.Rat).Add(part(a, sin), part(b, cos))
}

func turnedBoth(x api.Tide, t int) api.Gauss {
	re, im := turned(x, t)
	return g(fraction(re), fraction(im))
}

// total is the sum of a port's numbers at a tick, level its height.
func total(p api.Port, t int) (re, im *big.Rat) {
	re, im = new(big.Rat), new(big.Rat)
	for _, x := range p.Tides {
		a, b := turned(x, t)
		re.Add(re, a)
		im.Add(im, b)
	}
	return re, im
}

func totalBoth(p api.Port, t int) api.Gauss {
	re, im := total(p, t)
	return g(fraction(re), fraction(im))
}

func level(p api.Port, t int) *big.Rat {
	re, _ := total(p, t)
	return re.Add(re, rational(p.Mean))
}

// beyond are no ticks of exact heights.
func beyond() []int {
	return []int{-1, -2, -1024, -1025, 1025, 1026, 2048, 1 << 20, 1 << 32, -1 << 32, 1<<32 + 1, math.MaxInt, math.MinInt}
}

// P15.1
func TestNumber(t *testing.T) {
	ok := mustBoth(t)
	m := example().Tides[0]
	for at, want := range []api.Gauss{z(5, 0), z(3, 4), g(q(-7, 5), q(24, 5)), g(q(-117, 25), q(44, 25))} {
		if got := ok(exact.Number(m, at)); !sameGauss(got, want) {
			t.Errorf("Number at %d: %v", at, got)
		}
	}
	d := dice(151)
	for i := range 150 {
		x := api.Tide{Name: d.name(), Rotor: d.rotor(), Number: g(d.fraction(), d.fraction())}
		for _, at := range []int{0, 1, i, d.below(60)} {
			if got := ok(exact.Number(x, at)); !sameGauss(got, turnedBoth(x, at)) {
				t.Errorf("Number of %v at %d", x.Rotor, at)
			}
		}
		if got := ok(exact.Number(x, 0)); !sameGauss(got, x.Number) {
			t.Errorf("Number of %v at 0", x.Rotor)
		}
	}
}

// P15.1: the tick 1,024 is told, those beyond are not; nor are ticks below 0, though a rotor has such powers.
func TestNumberAtTheEdges(t *testing.T) {
	ok := mustBoth(t)
	for _, x := range []api.Tide{c("M2", 2, 1, z(1, -2)), c("K1", 1000, -999, g(q(0, 1), q(3, 7))), c("N", 1, 1000, z(0, 0)), c("x", 3, 1, g(q(5, 3), q(-1, 9)))} {
		for _, at := range []int{1023, 1024} {
			if got := ok(exact.Number(x, at)); !sameGauss(got, turnedBoth(x, at)) {
				t.Errorf("Number of %v at %d", x.Rotor, at)
			}
		}
		for _, at := range beyond() {
			refusedNumber(t, "beyond", x, at, api.ErrArg)
		}
	}
}

// P15.1, rule 1: the constituent's error, then the tick's, then what is too long.
func TestNumberRefuses(t *testing.T) {
	for key, w := range wrongTides() {
		for _, at := range []int{0, 1, 1024, -1, 1025} {
			refusedNumber(t, key, w.a, at, w.want)
		}
	}
	for key, x := range tooLong() {
		refusedNumber(t, key, x, 1, api.ErrLong)
		refusedNumber(t, key, x, -1, api.ErrArg)
		refusedNumber(t, key, x, 1025, api.ErrArg)
		if got := mustBoth(t)(exact.Number(x, 0)); !sameGauss(got, x.Number) {
			t.Errorf("Number at 0 with too long %s", key)
		}
	}
}

// times is a fraction times a whole number.
func times(a api.Ratio, k int64) api.Ratio {
	return fraction(new(big.Rat).Mul(rational(a), big.NewRat(k, 1)))
}

// tooLong are constituents that may be, whose number at the tick 1 is refused on the way.
func tooLong() map[string]api.Tide {
	under := r(false, ints(1), full(2048, 1<<32-1))
	k, third := r(false, two(65533), ints(1)), times(r(false, two(65532), ints(1)), 15)
	return map[string]api.Tide{
		"Re":                       c("M2", 2, 1, g(greatest(), greatest())),
		"a Den":                    c("M2", 2, 1, g(under, q(0, 1))),
		"Im's Den":                 c("M2", 2, 1, g(q(0, 1), under)),
		"products on the way":      c("M2", 2, 1, g(times(k, 4), times(k, 3))),
		"Im alone, and Re is not":  c("M2", 2, 1, g(third, third)),
		"the greatest, by 7 of 25": c("M2", 4, 3, g(r(false, full(2048, 1<<32-2), ints(1)), q(0, 1))),
	}
}

// P15.2
func TestAtAndSum(t *testing.T) {
	p := example()
	for at, want := range []api.Ratio{q(11, 2), q(7, 2), q(-9, 10)} {
		if got := must(t)(exact.At(p, at)); !sameRatio(got, want) {
			t.Errorf("At %d: %v", at, got)
		}
	}
	if got := mustBoth(t)(exact.Sum(p, 1)); !sameGauss(got, z(3, 4)) {
		t.Errorf("Sum at 1: %v", got)
	}
	hull := h("Hull", q(3, 2), c("M2", 2, 1, z(1, 0)))
	for at, want := range []api.Ratio{q(5, 2), q(21, 10), q(61, 50)} {
		if got := must(t)(exact.At(hull, at)); !sameRatio(got, want) {
			t.Errorf("At %d of H: %v", at, got)
		}
	}
	hull.Tides = append(hull.Tides, c("m2", 2, -1, z(1, 0)))
	if got := mustBoth(t)(exact.Sum(hull, 1)); !sameGauss(got, g(q(6, 5), q(0, 1))) {
		t.Errorf("Sum of M and m at 1: %v", got)
	}
	d := dice(152)
	for range 25 {
		p := d.port()
		for _, at := range []int{0, 1, 2, d.below(24)} {
			if got := must(t)(exact.At(p, at)); !sameRatio(got, fraction(level(p, at))) {
				t.Errorf("At %d of %s", at, p.Name)
			}
			if got := mustBoth(t)(exact.Sum(p, at)); !sameGauss(got, totalBoth(p, at)) {
				t.Errorf("Sum at %d of %s", at, p.Name)
			}
		}
	}
}

// P15.2: without constituents, with 24 of them, at the last tick.
func TestAtAndSumAtTheEdges(t *testing.T) {
	for _, at := range []int{0, 1, 1023, 1024} {
		for _, mean := range []api.Ratio{q(0, 1), q(-3, 2), greatest()} {
			if got := must(t)(exact.At(h("Hull", mean), at)); !sameRatio(got, mean) {
				t.Errorf("At %d without constituents: %v", at, got)
			}
			if got := mustBoth(t)(exact.Sum(h("Hull", mean), at)); !sameGauss(got, z(0, 0)) {
				t.Errorf("Sum at %d without constituents: %v", at, got)
			}
		}
		p := h("Hull", q(-7, 3), c("M2", 2, 1, g(q(1, 3), q(-5, 2))), c("S2", 3, 2, z(0, 0)), c("m2", 2, -1, z(4, 1)))
		if got := must(t)(exact.At(p, at)); !sameRatio(got, fraction(level(p, at))) {
			t.Errorf("At %d", at)
		}
		if got := mustBoth(t)(exact.Sum(p, at)); !sameGauss(got, totalBoth(p, at)) {
			t.Errorf("Sum at %d", at)
		}
	}
	full := h("Full", q(1, 24), many(24)...)
	for _, at := range []int{0, 1, 30} {
		if got := must(t)(exact.At(full, at)); !sameRatio(got, fraction(level(full, at))) {
			t.Errorf("At %d of 24 constituents", at)
		}
		if got := mustBoth(t)(exact.Sum(full, at)); !sameGauss(got, totalBoth(full, at)) {
			t.Errorf("Sum at %d of 24 constituents", at)
		}
	}
}

// P15.2 to P15.4, rule 1: the port's error ahead of all else.
func TestWrongPorts(t *testing.T) {
	for key, w := range wrongPorts() {
		refused(t, key, w.p, 0, 0, 2, w.want)
		refused(t, key, w.p, -1, 3, 2, w.want)
		refused(t, key, w.p, 1025, 0, 1026, w.want)
		refused(t, key, w.p, 1024, 5, 5, w.want)
	}
}

// P15.2: then the tick's, whatever the port is, and that ahead of what is too long.
func TestTicksBeyond(t *testing.T) {
	ports := []api.Port{example(), h("Hull", q(0, 1)), h("Full", q(1, 24), many(24)...)}
	for _, x := range tooLong() {
		ports = append(ports, h("Long", q(0, 1), x))
	}
	for _, p := range ports {
		for _, at := range beyond() {
			if got, e := exact.At(p, at); e != api.ErrArg || !sameRatio(got, api.Ratio{}) {
				t.Errorf("At %d of %s: %v", at, p.Name, e)
			}
			if got, e := exact.Sum(p, at); e != api.ErrArg || !sameGauss(got, api.Gauss{}) {
				t.Errorf("Sum at %d of %s: %v", at, p.Name, e)
			}
		}
	}
}

// P15.2: a number that is refused is so at whatever place, its imaginary part for a height, too.
func TestNumbersTooLong(t *testing.T) {
	for key, x := range tooLong() {
		for at := range 3 {
			tides := slices.Insert([]api.Tide{c("a", 3, 1, z(0, 0)), c("b", 5, 2, z(0, 0))}, at, x)
			refused(t, key, h("Long", q(0, 1), tides...), 1, 0, 3, api.ErrLong)
		}
		p := h("Long", q(0, 1), x)
		if got := must(t)(exact.At(p, 0)); !sameRatio(got, x.Number.Re) {
			t.Errorf("At 0 with too long %s", key)
		}
		if got := mustBoth(t)(exact.Sum(p, 0)); !sameGauss(got, x.Number) {
			t.Errorf("Sum at 0 with too long %s", key)
		}
	}
}

// overs are 1 over numbers of 1,300 words that have nothing in common: the sum of two is too long.
func overs() (first, second, minus api.Ratio) {
	first = r(false, ints(1), two(32*1299+7))
	second = r(false, ints(1), full(1300, 1<<32-1))
	return first, second, r(true, second.Num, second.Den)
}

// P15.2, rule 6: sums are made on the way, in the port's order, from the mean level on, or from 0.
func TestSumsTooLong(t *testing.T) {
	first, second, minus := overs()
	nought := q(0, 1)
	x, y, w := c("x", 2, 1, g(first, nought)), c("y", 3, 1, g(second, nought)), c("w", 5, 2, g(minus, nought))
	for key, tides := range map[string][]api.Tide{"x y w": {x, y, w}, "y x w": {y, x, w}, "x w y": {x, w, y}, "w x y": {w, x, y}} {
		refused(t, key, h("Long", nought, tides...), 0, 0, 1, api.ErrLong)
	}
	for key, tides := range map[string][]api.Tide{"y w x": {y, w, x}, "w y x": {w, y, x}} {
		p := h("Long", nought, tides...)
		if got := must(t)(exact.At(p, 0)); !sameRatio(got, first) {
			t.Errorf("At 0, %s", key)
		}
		if got := mustBoth(t)(exact.Sum(p, 0)); !sameGauss(got, g(first, nought)) {
			t.Errorf("Sum at 0, %s", key)
		}
	}
	// The mean level stands ahead of all constituents, and goes into no sum.
	p := h("Long", first, y, w)
	if got, e := exact.At(p, 0); e != api.ErrLong || !sameRatio(got, api.Ratio{}) {
		t.Errorf("At 0 from a mean level on: %v", e)
	}
	if got := mustBoth(t)(exact.Sum(p, 0)); !sameGauss(got, z(0, 0)) {
		t.Error("Sum at 0 beside a mean level")
	}
	// Imaginary parts go into sums, and into no height.
	p = h("Long", q(1, 2), c("x", 2, 1, g(q(1, 1), first)), c("y", 3, 1, g(q(1, 1), second)))
	if got, e := exact.Sum(p, 0); e != api.ErrLong || !sameGauss(got, api.Gauss{}) {
		t.Errorf("Sum at 0 of imaginary parts: %v", e)
	}
	if got := must(t)(exact.At(p, 0)); !sameRatio(got, q(5, 2)) {
		t.Error("At 0 beside imaginary parts")
	}
	// What is too long stays so, if it were the last one.
	refused(t, "x y", h("Long", nought, x, y), 0, 0, 1, api.ErrLong)
}

// P15.2: eight of the widest at the last tick.
func TestWideAtTheLastTick(t *testing.T) {
	p := h("Wide", q(1, 2))
	for k := range int32(8) {
		p.Tides = append(p.Tides, c(string([]byte{byte('A' + k)}), 991, k+1, z(1, 0)))
	}
	refused(t, "wide", p, 1024, 1024, 1025, api.ErrLong)
	p.Tides = p.Tides[:2]
	if got := must(t)(exact.At(p, 1024)); !sameRatio(got, fraction(level(p, 1024))) {
		t.Error("At 1024 of two wide ones")
	}
}

// P15.5: at 0; the height and the sum.
func TestHeightsAndSums(t *testing.T) {
	d := dice(155)
	for i := range 30 {
		p := d.port()
		all := []api.Ratio{p.Mean}
		for _, x := range p.Tides {
			all = append(all, x.Number.Re)
		}
		if want, f := ratio.Sum(all); f.Err != api.OK || !sameRatio(must(t)(exact.At(p, 0)), want) {
			t.Errorf("At 0 of %s", p.Name)
		}
		at := d.below(12) + i
		s := mustBoth(t)(exact.Sum(p, at))
		if want := must(t)(ratio.Add(p.Mean, s.Re)); !sameRatio(must(t)(exact.At(p, at)), want) {
			t.Errorf("At %d of %s is not the mean level and the sum", at, p.Name)
		}
		// Number by number, with the layers below.
		sum := gauss.Int(0, 0)
		for _, x := range p.Tides {
			n := mustBoth(t)(exact.Number(x, at))
			if want := mustBoth(t)(gauss.Mul(x.Number, mustBoth(t)(rotor.Power(x.Rotor, at)))); !sameGauss(n, want) {
				t.Errorf("Number of %v at %d", x.Rotor, at)
			}
			sum = mustBoth(t)(gauss.Add(sum, n))
		}
		if !sameGauss(s, sum) {
			t.Errorf("Sum at %d of %s is not that of its numbers", at, p.Name)
		}
	}
}

// P15.5, P6: of a Real port the sum's imaginary part is 0, in whatever order its constituents stand.
func TestRealHeights(t *testing.T) {
	d := dice(156)
	for range 12 {
		p := d.port()
		p.Tides = p.Tides[:min(len(p.Tides), 6)]
		other := mustPort(t)(port.Conj(p))
		for i, x := range other.Tides {
			x.Name = string([]byte{byte('a' + i), '0', 'c', 'o', 'n', 'j'})
			p.Tides = slices.Insert(p.Tides, d.below(len(p.Tides)+1), x)
		}
		if is, e := port.Real(p); !is || e != api.OK {
			t.Fatalf("Real of %s: %v", p.Name, e)
		}
		for _, at := range []int{0, 1, 2, d.below(40)} {
			s := mustBoth(t)(exact.Sum(p, at))
			if !sameRatio(s.Im, q(0, 1)) || !sameGauss(s, totalBoth(p, at)) {
				t.Errorf("Sum at %d of %s: an imaginary part", at, p.Name)
			}
		}
	}
	alone := h("H", q(0, 1), m2())
	if s := mustBoth(t)(exact.Sum(alone, 1)); sameRatio(s.Im, q(0, 1)) {
		t.Error("Sum of one without its conjugate")
	}
}

func mustPort(t *testing.T) func(p api.Port, e api.Errno) api.Port {
	return func(p api.Port, e api.Errno) api.Port {
		t.Helper()
		if e != api.OK {
			t.Fatalf("answered %v", e)
		}
		return p
	}
}

// P15.5: a port that is moved; another mean level.
func TestMovedAndOtherLevels(t *testing.T) {
	d := dice(157)
	for range 12 {
		p := d.port()
		s, at := d.below(20), d.below(20)
		if got := must(t)(exact.At(mustPort(t)(port.Moved(p, s)), at)); !sameRatio(got, must(t)(exact.At(p, s+at))) {
			t.Errorf("At %d of %s, moved by %d", at, p.Name, s)
		}
		// Moved back, too.
		if got := must(t)(exact.At(mustPort(t)(port.Moved(p, -s)), s+at)); !sameRatio(got, must(t)(exact.At(p, at))) {
			t.Errorf("At %d of %s, moved by %d", s+at, p.Name, -s)
		}
		other := p
		other.Mean = d.fraction()
		more := must(t)(ratio.Sub(other.Mean, p.Mean))
		for tick := range 6 {
			if want := must(t)(ratio.Add(must(t)(exact.At(p, tick)), more)); !sameRatio(must(t)(exact.At(other, tick)), want) {
				t.Errorf("At %d of %s with another mean level", tick, p.Name)
			}
		}
	}
	h0 := h("Hull", q(3, 2), c("M2", 2, 1, z(1, 0)))
	if got := must(t)(exact.At(mustPort(t)(port.Moved(h0, 1)), 0)); !sameRatio(got, q(21, 10)) {
		t.Errorf("At 0 of H moved by 1: %v", got)
	}
}

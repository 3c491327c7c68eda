package gauss_test

import (
	"strconv"
	"testing"

	"slackwater/api"
	"slackwater/gauss"
	"slackwater/ratio"
)

// P4.2

func TestReckons(t *testing.T) {
	ok := must(t)
	for _, c := range []struct{ a, b, add, sub, mul, quo api.Gauss }{
		{z(1, 2), z(3, -1), z(4, 1), z(-2, 3), z(5, 5), g(q(1, 10), q(7, 10))},
		{z(5, 5), z(3, -1), z(8, 4), z(2, 6), z(20, 10), z(1, 2)},
		{z(0, 0), z(0, -5), z(0, -5), z(0, 5), z(0, 0), z(0, 0)},
		{z(0, 1), z(0, 1), z(0, 2), z(0, 0), z(-1, 0), z(1, 0)},
		{z(1, 0), z(0, 1), z(1, 1), z(1, -1), z(0, 1), z(0, -1)},
		{g(q(3, 5), q(4, 5)), g(q(3, 5), q(-4, 5)), g(q(6, 5), q(0, 1)), g(q(0, 1), q(8, 5)), z(1, 0), g(q(-7, 25), q(24, 25))},
		{g(q(1, 2), q(-1, 3)), g(q(1, 6), q(1, 4)), g(q(2, 3), q(-1, 12)), g(q(1, 3), q(-7, 12)), g(q(1, 6), q(5, 72)), g(q(0, 1), q(-2, 1))},
	} {
		for call, want := range map[string]api.Gauss{"Add": c.add, "Sub": c.sub, "Mul": c.mul, "Quo": c.quo} {
			if got := ok(ofTwo()[call](c.a, c.b)); !same(got, want) {
				t.Errorf("%s of %v and %v: %v", call, c.a, c.b, got)
			}
		}
	}
}

func TestReckonsAllOfTheSmallest(t *testing.T) {
	ok := must(t)
	for a := int64(-5); a <= 5; a++ {
		for b := int64(-5); b <= 5; b++ {
			for c := int64(-5); c <= 5; c++ {
				for d := int64(-5); d <= 5; d++ {
					x, y := z(a, b), z(c, d)
					if !same(ok(gauss.Add(x, y)), z(a+c, b+d)) || !same(ok(gauss.Sub(x, y)), z(a-c, b-d)) || !same(ok(gauss.Mul(x, y)), z(a*c-b*d, a*d+b*c)) {
						t.Fatalf("%d %d and %d %d", a, b, c, d)
					}
					got, e := gauss.Quo(x, y)
					if c == 0 && d == 0 {
						refused(t, "Quo over 0", got, e, api.ErrZero)
						continue
					}
					if norm := c*c + d*d; !same(ok(got, e), g(q(a*c+b*d, norm), q(b*c-a*d, norm))) {
						t.Fatalf("Quo of %d %d and %d %d: %v", a, b, c, d, got)
					}
				}
			}
		}
	}
}

func TestOfOneNumber(t *testing.T) {
	ok, okRatio := must(t), mustRatio(t)
	for _, c := range []struct {
		a, conj, neg, half api.Gauss
		norm               api.Ratio
	}{
		{z(0, 0), z(0, 0), z(0, 0), z(0, 0), q(0, 1)}, {z(1, 0), z(1, 0), z(-1, 0), g(q(1, 2), q(0, 1)), q(1, 1)}, {z(0, 1), z(0, -1), z(0, -1), g(q(0, 1), q(1, 2)), q(1, 1)},
		{z(3, -4), z(3, 4), z(-3, 4), g(q(3, 2), q(-2, 1)), q(25, 1)}, {g(q(3, 5), q(4, 5)), g(q(3, 5), q(-4, 5)), g(q(-3, 5), q(-4, 5)), g(q(3, 10), q(2, 5)), q(1, 1)},
		{g(q(-1, 2), q(2, 3)), g(q(-1, 2), q(-2, 3)), g(q(1, 2), q(-2, 3)), g(q(-1, 4), q(1, 3)), q(25, 36)},
	} {
		if got := ok(gauss.Conj(c.a)); !same(got, c.conj) {
			t.Errorf("Conj of %v: %v", c.a, got)
		}
		if got := ok(gauss.Neg(c.a)); !same(got, c.neg) {
			t.Errorf("Neg of %v: %v", c.a, got)
		}
		if got := ok(gauss.Scale(q(1, 2), c.a)); !same(got, c.half) {
			t.Errorf("Scale by 1/2 of %v: %v", c.a, got)
		}
		if got := okRatio(gauss.Norm(c.a)); !sameRatio(got, c.norm) {
			t.Errorf("Norm of %v: %v", c.a, got)
		}
	}
	greatest := full(2048, 1<<32-1)
	long, other := r(false, greatest, two(65535)), r(true, two(65535), greatest)
	if !same(ok(gauss.Conj(g(long, other))), g(long, opposite(other))) || !same(ok(gauss.Neg(g(long, other))), g(opposite(long), opposite(other))) {
		t.Error("Conj or Neg of the longest fractions")
	}
}

func TestWrongNumbersAreRefused(t *testing.T) {
	long, rough := r(false, full(2049, 1), ints(1)), r(false, ints(2), ints(4))
	others := []api.Gauss{z(0, 0), z(1, -2), g(r(true, full(2048, 1<<32-1), ints(1)), q(5, 3))}
	for name, c := range wrongNumbers() {
		for call, f := range ofOne() {
			got, e := f(c.a)
			refused(t, call+" of "+name, got, e, c.want)
		}
		for call, f := range ofTwo() {
			// the first one's error stands ahead of the second one's, and of ErrZero
			for _, b := range append(others, api.Gauss{}, g(long, q(0, 1)), g(q(0, 1), rough), g(long, rough)) {
				got, e := f(c.a, b)
				refused(t, call+" of "+name, got, e, c.want)
			}
			for _, a := range others {
				got, e := f(a, c.a)
				refused(t, call+" with "+name, got, e, c.want)
			}
		}
		if s, e := gauss.Print(c.a); s != "" || e != c.want {
			t.Errorf("Print of %s: %q %v", name, s, e)
		}
	}
	for _, a := range others {
		got, e := gauss.Quo(a, z(0, 0))
		refused(t, "Quo over 0", got, e, api.ErrZero)
	}
}

func TestScaleRefusesItsFractionFirst(t *testing.T) {
	long, rough := r(false, full(2049, 1), ints(1)), r(false, ints(2), ints(4))
	for name, c := range wrong() {
		for _, a := range []api.Gauss{z(0, 0), z(1, 2), {}, g(long, long), g(rough, long), g(q(1, 1), long), g(q(1, 1), rough)} {
			got, e := gauss.Scale(c.a, a)
			refused(t, "Scale by "+name, got, e, c.want)
		}
	}
	for name, c := range wrongNumbers() {
		for _, by := range []api.Ratio{q(0, 1), q(1, 1), q(-3, 2), power(65535)} {
			got, e := gauss.Scale(by, c.a)
			refused(t, "Scale of "+name, got, e, c.want)
		}
	}
}

// onTheWay are calls in which the named fraction on the way is the first that is too long; what would be told need not be.
func onTheWay() map[string]struct {
	call string
	a, b api.Gauss
} {
	half, one := 32768, q(1, 1)
	return map[string]struct {
		call string
		a, b api.Gauss
	}{
		"Add's Re": {"Add", g(below(65536), q(0, 1)), z(1, 0)}, "Add's Im": {"Add", g(one, below(65536)), z(1, 1)},
		"Add's Re by its Den": {"Add", g(small(65535), one), g(q(1, 3), one)}, "Add's Im by its Den": {"Add", g(one, small(65535)), g(one, q(1, 3))},
		"Sub's Re": {"Sub", g(below(65536), q(0, 1)), z(-1, 0)}, "Sub's Im": {"Sub", g(one, q(-1, 1)), g(one, below(65536))},
		// 2^65536 less 1 has 2,048 words, 2^65536 one more
		"Mul's Re times Re": {"Mul", g(power(half), one), g(power(half), one)},
		"Mul's Im times Im": {"Mul", g(one, power(half)), g(one, power(half))},
		"Mul's Re":          {"Mul", g(below(half), one), g(above(half), q(-1, 1))},
		"Mul's Re times Im": {"Mul", g(power(half), one), g(q(-1, 1), power(half))},
		"Mul's Im times Re": {"Mul", g(one, power(half)), g(power(half), q(-1, 1))},
		"Mul's Im":          {"Mul", g(below(half), one), g(one, above(half))},
		// 2^65536 and 64 is 25 times a number, so that the sum is not too long
		"Quo's Norm by Re":   {"Quo", z(0, 0), g(fifth(power(half)), q(8, 5))},
		"Quo's Norm by Im":   {"Quo", z(0, 0), g(q(8, 5), fifth(power(half)))},
		"Quo's Norm":         {"Quo", z(0, 0), g(below(half), power(half-1))},
		"Quo's Re times Re":  {"Quo", g(power(65535), q(0, 1)), z(2, 0)},
		"Quo's Im times Im":  {"Quo", g(q(0, 1), power(65535)), z(0, 2)},
		"Quo's Re times Im":  {"Quo", g(power(65535), q(0, 1)), z(0, 2)},
		"Quo's Im times Re":  {"Quo", g(q(0, 1), power(65535)), z(2, 0)},
		"Quo's Re of both":   {"Quo", g(power(65535), power(65535)), z(1, 1)},
		"Quo's Im of both":   {"Quo", g(power(65535), power(65535)), z(1, -1)},
		"Quo's Re over Norm": {"Quo", g(small(65535), q(0, 1)), z(2, 0)},
		"Quo's Im over Norm": {"Quo", g(q(0, 1), small(65535)), z(2, 0)},
		"Quo of one by one":  {"Quo", g(power(40000), q(0, 1)), g(power(40000), q(0, 1))},
	}
}

// fifth is a fifth of a number that 5 does not divide.
func fifth(a api.Ratio) api.Ratio { return r(a.Neg, a.Num, ints(5)) }

func TestWhatIsTooLongOnTheWayIsRefused(t *testing.T) {
	for name, c := range onTheWay() {
		got, e := ofTwo()[c.call](c.a, c.b)
		refused(t, name, got, e, api.ErrLong)
	}
	// what just one part is too long for
	for i, c := range []struct {
		by api.Ratio
		a  api.Gauss
	}{
		{q(2, 1), g(power(65535), q(0, 1))}, {q(2, 1), g(q(0, 1), power(65535))}, {q(-1, 2), g(small(65535), q(1, 1))}, {q(1, 2), g(q(1, 1), small(65535))}, {power(65535), z(2, 0)}, {power(65535), z(0, -2)},
	} {
		got, e := gauss.Scale(c.by, c.a)
		refused(t, "Scale, line "+strconv.Itoa(i), got, e, api.ErrLong)
	}
}

func TestNormTooLongOnTheWay(t *testing.T) {
	// 1, but by squares of 2,051 words
	wide := plus(two(32800), 1)
	unit := g(r(false, below(32800).Num, wide), r(false, two(16401), wide))
	for name, a := range map[string]api.Gauss{
		"Re's square": g(fifth(power(32768)), q(8, 5)), "Im's square": g(q(8, 5), fifth(power(32768))), "the sum": g(below(32768), power(32767)), "a Den": g(small(32768), q(1, 1)), "another Den": g(q(1, 1), small(32768)),
		"squares that come to 1": unit,
	} {
		if gauss.Check(a) != api.OK {
			t.Fatal("no number:", name)
		}
		if n, e := gauss.Norm(a); e != api.ErrLong || !noRatio(n) {
			t.Errorf("Norm of %s: %v, %d over %d words", name, e, len(n.Num), len(n.Den))
		}
	}
}

func TestJustNotTooLong(t *testing.T) {
	ok := must(t)
	half, one := 32768, q(1, 1)
	for name, c := range map[string]struct {
		call       string
		a, b, want api.Gauss
	}{
		"Add":                    {"Add", g(r(false, plus(below(65536).Num, 1<<32-1), ints(1)), q(-1, 1)), z(1, 1), g(below(65536), q(0, 1))},
		"Sub":                    {"Sub", g(below(65536), small(65535)), g(below(65536), small(65535)), z(0, 0)},
		"Mul's Re":               {"Mul", g(below(half), q(0, 1)), g(above(half), q(0, 1)), g(below(65536), q(0, 1))},
		"Mul's Im":               {"Mul", g(q(0, 1), below(half)), g(above(half), q(0, 1)), g(q(0, 1), below(65536))},
		"Mul by what is common":  {"Mul", g(r(false, below(65536).Num, two(65535)), q(0, 1)), g(r(false, two(65535), below(65536).Num), q(0, 1)), z(1, 0)},
		"Mul, four products":     {"Mul", g(power(32767), power(32766)), g(power(32767), power(32766)), g(r(false, append(make([]uint32, 2047), 3<<28), ints(1)), power(65534))},
		"Quo":                    {"Quo", g(power(65535), power(65534)), z(1, 0), g(power(65535), power(65534))},
		"Quo, its Norm":          {"Quo", g(one, q(0, 1)), g(power(32767), q(0, 1)), g(small(32767), q(0, 1))},
		"Quo over the least one": {"Quo", z(1, 0), g(small(32767), q(0, 1)), g(power(32767), q(0, 1))},
	} {
		if got := ok(ofTwo()[c.call](c.a, c.b)); !same(got, c.want) {
			t.Errorf("%s: %s", name, sizes(got))
		}
	}
	if got := ok(gauss.Scale(q(2, 1), g(power(65534), small(65535)))); !same(got, g(power(65535), small(65534))) {
		t.Errorf("Scale: %s", sizes(got))
	}
	if n := mustRatio(t)(gauss.Norm(g(power(32767), power(32767)))); !sameRatio(n, power(65535)) {
		t.Errorf("Norm: %d over %d words", len(n.Num), len(n.Den))
	}
}

// P4.4

// byParts reckons by ratio's calls alone, the quotient by each part of its own.
func byParts(t *testing.T, call string, a, b api.Gauss) api.Gauss {
	t.Helper()
	ok := mustRatio(t)
	times := func(x, y api.Ratio) api.Ratio { return ok(ratio.Mul(x, y)) }
	switch call {
	case "Add":
		return g(ok(ratio.Add(a.Re, b.Re)), ok(ratio.Add(a.Im, b.Im)))
	case "Sub":
		return g(ok(ratio.Sub(a.Re, b.Re)), ok(ratio.Sub(a.Im, b.Im)))
	case "Mul":
		return g(ok(ratio.Sub(times(a.Re, b.Re), times(a.Im, b.Im))), ok(ratio.Add(times(a.Re, b.Im), times(a.Im, b.Re))))
	}
	norm := ok(ratio.Add(times(b.Re, b.Re), times(b.Im, b.Im)))
	re := ok(ratio.Add(times(a.Re, b.Re), times(a.Im, b.Im)))
	im := ok(ratio.Sub(times(a.Im, b.Re), times(a.Re, b.Im)))
	return g(ok(ratio.Quo(re, norm)), ok(ratio.Quo(im, norm)))
}

func TestReckonsAsByParts(t *testing.T) {
	ok := must(t)
	d := dice(1)
	for i := range 400 {
		k := 1 + i%12
		if i%100 == 0 {
			k = 150
		}
		a, b := d.number(t, k), d.number(t, k)
		for call, f := range ofTwo() {
			if call == "Quo" && gauss.Zero(b) {
				continue
			}
			if got := ok(f(a, b)); !same(got, byParts(t, call, a, b)) {
				t.Fatal(call, a, b, got)
			}
		}
		if got, want := ok(gauss.Scale(b.Re, a)), byParts(t, "Mul", g(b.Re, q(0, 1)), a); !same(got, want) {
			t.Fatal("Scale", a, b.Re, got)
		}
	}
}

func TestLawsOfSumsAndProducts(t *testing.T) {
	ok := must(t)
	d := dice(2)
	for i := range 400 {
		k := 1 + i%8
		a, b, c := d.number(t, k), d.number(t, k), d.number(t, k)
		sum, product := ok(gauss.Add(a, b)), ok(gauss.Mul(a, b))
		if !same(sum, ok(gauss.Add(b, a))) || !same(ok(gauss.Add(sum, c)), ok(gauss.Add(a, ok(gauss.Add(b, c))))) {
			t.Fatal("sums hang on their order", a, b, c)
		}
		if !same(product, ok(gauss.Mul(b, a))) || !same(ok(gauss.Mul(product, c)), ok(gauss.Mul(a, ok(gauss.Mul(b, c))))) {
			t.Fatal("products hang on their order", a, b, c)
		}
		if !same(ok(gauss.Mul(sum, c)), ok(gauss.Add(ok(gauss.Mul(a, c)), ok(gauss.Mul(b, c))))) {
			t.Fatal("a product over a sum", a, b, c)
		}
		less := ok(gauss.Sub(a, b))
		if !same(ok(gauss.Add(less, b)), a) || !same(less, ok(gauss.Neg(ok(gauss.Sub(b, a))))) || !same(less, ok(gauss.Add(a, ok(gauss.Neg(b))))) {
			t.Fatal("a less b", a, b)
		}
		if !gauss.Zero(b) && (!same(ok(gauss.Quo(product, b)), a) || !same(ok(gauss.Mul(ok(gauss.Quo(a, b)), b)), a)) {
			t.Fatal("Quo does not take back what Mul did", a, b)
		}
	}
}

func TestLawsOfConjAndNorm(t *testing.T) {
	ok, okRatio := must(t), mustRatio(t)
	d := dice(3)
	for i := range 400 {
		a, b := d.number(t, 1+i%8), d.number(t, 1+i%8)
		product := ok(gauss.Mul(a, b))
		conj, norm := ok(gauss.Conj(a)), okRatio(gauss.Norm(a))
		if !same(ok(gauss.Conj(product)), ok(gauss.Mul(conj, ok(gauss.Conj(b))))) || !same(ok(gauss.Conj(conj)), a) {
			t.Fatal("Conj of a product", a, b)
		}
		if !sameRatio(okRatio(gauss.Norm(product)), okRatio(ratio.Mul(norm, okRatio(gauss.Norm(b))))) {
			t.Fatal("Norm of a product", a, b)
		}
		if !same(ok(gauss.Mul(a, conj)), g(norm, q(0, 1))) {
			t.Fatal("a times Conj of a", a)
		}
	}
}

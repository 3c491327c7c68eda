package nat_test

import (
	"math/bits"
	"testing"

	"slackwater/api"
	"slackwater/nat"
)

// P1.2

// quotient and rest hand out one of DivMod's two lists.
func quotient(a, b []uint32) ([]uint32, api.Errno) {
	q, _, e := nat.DivMod(a, b)
	return q, e
}

func rest(a, b []uint32) ([]uint32, api.Errno) {
	_, r, e := nat.DivMod(a, b)
	return r, e
}

var ofTwo = []struct {
	name string
	call func(a, b []uint32) ([]uint32, api.Errno)
}{
	{"Add", nat.Add}, {"Sub", nat.Sub}, {"Mul", nat.Mul}, {"DivMod's first", quotient}, {"DivMod's second", rest}, {"Gcd", nat.Gcd},
}

func TestArgumentErrorsInTheirOrder(t *testing.T) {
	long, longNoughts, rough := full(8193, 1), full(8193, 0), w(5, 0)
	for _, c := range []struct {
		a, b []uint32
		want api.Errno
	}{
		{long, w(1), api.ErrLong}, {longNoughts, w(1), api.ErrLong}, {rough, w(1), api.ErrNormal},
		{w(1), long, api.ErrLong}, {w(1), longNoughts, api.ErrLong}, {w(1), rough, api.ErrNormal},
		{rough, long, api.ErrNormal}, {long, rough, api.ErrLong}, {nil, w(0), api.ErrNormal},
		// ahead of ErrZero and of ErrArg
		{rough, nil, api.ErrNormal}, {long, nil, api.ErrLong}, {nil, rough, api.ErrNormal}, {nil, long, api.ErrLong},
	} {
		for _, f := range ofTwo {
			got, e := f.call(c.a, c.b)
			refused(t, f.name, got, e, c.want)
		}
	}
}

func TestAdd(t *testing.T) {
	ok := must(t)
	for _, c := range []struct{ a, b, want []uint32 }{
		{nil, nil, nil}, {w(7), nil, w(7)}, {nil, w(7, 8), w(7, 8)}, {w(1<<32 - 1), w(1), w(0, 1)},
		{w(1<<32-1, 1<<32-1), w(1), w(0, 0, 1)}, {w(1), w(1<<32-1, 1<<32-1, 5), w(0, 0, 6)},
		{w(1<<32-1, 1<<32-1), w(1<<32-1, 1<<32-1), w(1<<32-2, 1<<32-1, 1)},
		{full(8192, 1<<32-1), nil, full(8192, 1<<32-1)}, {full(8191, 1<<32-1), w(1), power(8191 * 32)},
	} {
		if got := ok(nat.Add(c.a, c.b)); !same(got, c.want) {
			t.Errorf("Add(%v, %v): %v", c.a, c.b, got)
		}
	}
	got, e := nat.Add(full(8192, 1<<32-1), w(1))
	refused(t, "2^262144 as a sum", got, e, api.ErrLong)
	got, e = nat.Add(w(1), full(8192, 1<<32-1))
	refused(t, "2^262144 as a sum", got, e, api.ErrLong)
}

func TestSub(t *testing.T) {
	ok := must(t)
	for _, c := range []struct{ a, b, want []uint32 }{
		{nil, nil, nil}, {w(7), nil, w(7)}, {w(7), w(7), nil}, {w(0, 1), w(1), w(1<<32 - 1)},
		{w(0, 0, 0, 1), w(1), full(3, 1<<32-1)}, {w(1, 2, 3), w(2, 2, 3)[1:], w(1<<32-1, 1<<32-2, 2)},
		{w(5, 6, 7), w(5, 6, 7), nil}, {w(5, 6, 7), w(4, 6, 7), w(1)}, {full(8192, 1), full(8192, 1), nil},
	} {
		if got := ok(nat.Sub(c.a, c.b)); !same(got, c.want) {
			t.Errorf("Sub(%v, %v): %v", c.a, c.b, got)
		}
	}
	for _, c := range []struct{ a, b []uint32 }{
		{w(1), w(2)}, {nil, w(1)}, {w(9), w(0, 1)}, {w(9, 9, 1), w(0, 0, 2)}, {full(8191, 9), full(8192, 1)},
	} {
		got, e := nat.Sub(c.a, c.b)
		refused(t, "Sub below 0", got, e, api.ErrArg)
	}
}

func TestMul(t *testing.T) {
	ok := must(t)
	for _, c := range []struct{ a, b, want []uint32 }{
		{nil, nil, nil}, {w(7), nil, nil}, {nil, full(8192, 1), nil}, {w(1), w(5, 6), w(5, 6)},
		{w(1<<32 - 1), w(1<<32 - 1), w(1, 1<<32-2)},
		{w(1<<32-1, 1<<32-1), w(1<<32-1, 1<<32-1), w(1, 0, 1<<32-2, 1<<32-1)},
		{power(100), power(200), power(300)}, {w(1), full(8192, 5), full(8192, 5)},
		{full(8192, 0x11111111), w(15), full(8192, 1<<32-1)}, {power(4096 * 32), power(4096*32 - 1), power(8192*32 - 1)},
	} {
		for _, got := range [][]uint32{ok(nat.Mul(c.a, c.b)), ok(nat.Mul(c.b, c.a))} {
			if !same(got, c.want) {
				t.Errorf("Mul of %d and %d words: %d words, not %d", len(c.a), len(c.b), len(got), len(c.want))
			}
		}
	}
	for _, c := range []struct{ a, b []uint32 }{
		{power(4096 * 32), power(4096 * 32)}, {full(8192, 1), w(0, 1)}, {full(8192, 0x11111111), w(16)},
		{full(8192, 1<<32-1), full(8192, 1<<32-1)}, {full(8192, 1<<32-1), w(2)},
	} {
		got, e := nat.Mul(c.a, c.b)
		refused(t, "a product of 8,193 words or more", got, e, api.ErrLong)
	}
}

func TestProductsOfTwoWords(t *testing.T) {
	ok := must(t)
	d := dice(2)
	for range 2000 {
		x, y := d.next(), d.next()
		high, low := bits.Mul64(x, y)
		want := nat.Trim(w(uint32(low), uint32(low>>32), uint32(high), uint32(high>>32)))
		if got := ok(nat.Mul(nat.Of(x), nat.Of(y))); !same(got, want) {
			t.Fatalf("%d times %d: %v", x, y, got)
		}
	}
}

func TestDivMod(t *testing.T) {
	for _, c := range []struct{ a, b, q, r []uint32 }{
		{nil, w(1), nil, nil}, {w(7), w(7), w(1), nil}, {w(7), w(8), nil, w(7)}, {w(5, 6), w(0, 0, 1), nil, w(5, 6)},
		{w(0, 0, 1), w(3), w(1431655765, 1431655765), w(1)}, {w(1, 2, 3), w(1), w(1, 2, 3), nil},
		{w(1<<32-1, 1<<32-1), w(1<<32 - 1), w(1, 1), nil}, {w(4, 5, 6, 7), w(0, 0, 1), w(6, 7), w(4, 5)},
		// guesses that are one, or two, too great; a first guess that is above a word
		{w(0, 0, 1<<31), w(1<<32-1, 1<<31), w(1<<32 - 2), w(1<<32-2, 2)},
		{w(0, 0, 1<<31, 1<<31-1), w(1, 0, 1<<31), w(1<<32 - 2), w(2, 1<<32-1, 1<<31-1)},
		{w(3, 0, 1<<31), w(1, 0, 1<<29), w(3), w(0, 0, 1<<29)},
		{w(0, 1<<32-2, 1<<31), w(1<<32-1, 1<<31), w(1<<32 - 1), w(1<<32-1, 1<<31-1)},
	} {
		q, r, e := nat.DivMod(c.a, c.b)
		if !same(q, c.q) || !same(r, c.r) || e != api.OK {
			t.Errorf("DivMod(%v, %v): %v, %v, %v", c.a, c.b, q, r, e)
		}
	}
	for _, a := range [][]uint32{nil, w(1), full(8192, 1)} {
		q, r, e := nat.DivMod(a, nil)
		if len(q) != 0 || len(r) != 0 || e != api.ErrZero {
			t.Error("over 0", e)
		}
	}
}

func TestLongQuotients(t *testing.T) {
	q, r, e := nat.DivMod(full(8192, 1<<32-1), w(1<<32-1))
	if !same(q, full(8192, 1)) || len(r) != 0 || e != api.OK {
		t.Error("by one word", len(q), r, e)
	}
	// (B^n - 1) over (B^m - 1), B being 2^32, has a 1 at each mth place.
	q, r, e = nat.DivMod(full(8192, 1<<32-1), full(4, 1<<32-1))
	want := full(8189, 0)
	for i := 0; i < len(want); i += 4 {
		want[i] = 1
	}
	if !same(q, want) || len(r) != 0 || e != api.OK {
		t.Error("by four words", len(q), r, e)
	}
	q, r, e = nat.DivMod(full(8192, 1<<32-1), full(8192, 1<<32-1))
	if !same(q, w(1)) || len(r) != 0 || e != api.OK {
		t.Error("by itself", len(q), r, e)
	}
}

// euclid is the greatest common divisor step by step.
func euclid(t *testing.T, a, b []uint32) []uint32 {
	for len(b) > 0 {
		_, r, e := nat.DivMod(a, b)
		if e != api.OK {
			t.Fatal(e)
		}
		a, b = b, r
	}
	return a
}

func TestGcd(t *testing.T) {
	ok := must(t)
	for _, c := range []struct{ a, b, want []uint32 }{
		{nil, nil, nil}, {nil, w(7), w(7)}, {w(7), nil, w(7)}, {w(12), w(18), w(6)}, {w(1), full(8192, 9), w(1)},
		{w(0, 1), w(0, 0, 0, 1), w(0, 1)}, {w(0, 3), w(0, 0, 5), w(0, 1)}, {w(1, 2, 3, 4), w(1, 2, 3, 4), w(1, 2, 3, 4)},
		{nil, full(8192, 1), full(8192, 1)}, {full(8192, 3), full(8192, 5), full(8192, 1)},
		// B^n - 1 and B^m - 1 have B^(n, m) - 1 in common.
		{full(120, 1<<32-1), full(84, 1<<32-1), full(12, 1<<32-1)}, {full(8192, 1<<32-1), full(6144, 1<<32-1), full(2048, 1<<32-1)},
	} {
		for _, got := range [][]uint32{ok(nat.Gcd(c.a, c.b)), ok(nat.Gcd(c.b, c.a))} {
			if !same(got, c.want) {
				t.Errorf("Gcd of %d and %d words: %d words, not %d", len(c.a), len(c.b), len(got), len(c.want))
			}
		}
	}
}

// Two numbers whose quotients are chosen: none is left out by steps that are taken at once.
func TestGcdOfChosenQuotients(t *testing.T) {
	ok := must(t)
	d := dice(3)
	for _, greatest := range []uint64{1, 2, 3, 1 << 16, 1 << 30, 1 << 31, 1<<31 + 1, 1 << 32, 1 << 40, 1<<62 + 1, 1<<64 - 1} {
		for _, common := range [][]uint32{w(1), w(6, 7), w(1, 2, 3, 4, 5), full(9, 1<<32-1)} {
			x, y := common, []uint32(nil)
			for i := range 120 {
				part := greatest
				if i%3 == 1 {
					part = d.next()%greatest + 1
				}
				x, y = ok(nat.Add(ok(nat.Mul(nat.Of(part), x)), y)), x
			}
			if got := ok(nat.Gcd(x, y)); !same(got, common) {
				t.Errorf("quotients up to %d: %v, not %v", greatest, got, common)
			}
		}
	}
}

func TestGcdIsEuclids(t *testing.T) {
	ok := must(t)
	d := dice(4)
	for i := range 3000 {
		n := 4 + i%40
		a, b := d.number(n), d.number(n)
		if i%2 == 0 {
			c := d.number(n)
			a, b = ok(nat.Mul(a, c)), ok(nat.Mul(b, c))
		}
		if got := ok(nat.Gcd(a, b)); !same(got, euclid(t, a, b)) {
			t.Fatalf("Gcd(%v, %v): %v", a, b, got)
		}
	}
}

func TestReckonsAsByHand(t *testing.T) {
	ok := must(t)
	d := dice(5)
	for i := range 300 {
		a, b := d.number(1+i%20), d.number(1+i%13)
		if got, want := text(t, ok(nat.Add(a, b))), plusText(text(t, a), text(t, b)); got != want {
			t.Fatalf("%v and %v: %s, not %s", a, b, got, want)
		}
		if got, want := text(t, ok(nat.Mul(a, b))), timesText(text(t, a), text(t, b)); got != want {
			t.Fatalf("%v times %v: %s, not %s", a, b, got, want)
		}
	}
}

// P1.5

func TestLaws(t *testing.T) {
	ok := must(t)
	d := dice(6)
	for i := range 4000 {
		n := 1 + i%24
		a, b, c := d.number(n), d.number(n), d.number(n)
		sum, product := ok(nat.Add(a, b)), ok(nat.Mul(a, b))
		if !same(sum, ok(nat.Add(b, a))) || !same(ok(nat.Add(sum, c)), ok(nat.Add(a, ok(nat.Add(b, c))))) {
			t.Fatal("sums hang on their order", a, b, c)
		}
		if !same(product, ok(nat.Mul(b, a))) || !same(ok(nat.Mul(product, c)), ok(nat.Mul(a, ok(nat.Mul(b, c))))) {
			t.Fatal("products hang on their order", a, b, c)
		}
		if !same(ok(nat.Mul(sum, c)), ok(nat.Add(ok(nat.Mul(a, c)), ok(nat.Mul(b, c))))) {
			t.Fatal("a product over a sum", a, b, c)
		}
		if !same(ok(nat.Sub(sum, b)), a) || !same(ok(nat.Sub(sum, a)), b) {
			t.Fatal("Sub does not take back what Add added", a, b)
		}
		divides(t, a, b)
		divides(t, ok(nat.Add(product, c)), b)
		common(t, ok(nat.Mul(a, c)), ok(nat.Mul(b, c)), c)
		up := d.below(400)
		if !same(ok(nat.Shift(ok(nat.Shift(a, up)), -up)), a) {
			t.Fatal("up and down again", a, up)
		}
		back, e := nat.Parse(text(t, a))
		if !same(back, a) || e != api.OK {
			t.Fatal("Parse of Print", a, back, e)
		}
	}
}

// divides looks whether q times b and r is a, r below b.
func divides(t *testing.T, a, b []uint32) {
	t.Helper()
	ok := must(t)
	if len(b) == 0 {
		return
	}
	q, r, e := nat.DivMod(a, b)
	if e != api.OK || nat.Check(q) != api.OK || nat.Check(r) != api.OK || nat.Compare(r, b) >= 0 {
		t.Fatal("DivMod", a, b, q, r, e)
	}
	if !same(ok(nat.Add(ok(nat.Mul(q, b)), r)), a) {
		t.Fatal("q times b and r is not a", a, b, q, r)
	}
}

// common looks whether Gcd divides both numbers, and is divided by c, which divides both.
func common(t *testing.T, a, b, c []uint32) {
	t.Helper()
	ok := must(t)
	g := ok(nat.Gcd(a, b))
	if len(g) == 0 {
		if len(a) != 0 || len(b) != 0 {
			t.Fatal("Gcd is 0", a, b)
		}
		return
	}
	for _, x := range [][]uint32{a, b} {
		if len(ok(rest(x, g))) != 0 {
			t.Fatal("Gcd does not divide", x, g)
		}
	}
	if len(ok(rest(g, c))) != 0 {
		t.Fatal("what divides both does not divide Gcd", g, c)
	}
	if !same(ok(nat.Gcd(ok(quotient(a, g)), ok(quotient(b, g)))), w(1)) {
		t.Fatal("Gcd leaves something in common", a, b, g)
	}
}

func TestLawsOfLongNumbers(t *testing.T) {
	ok := must(t)
	d := dice(7)
	for range 3 {
		a, b, c := d.number(4000), d.number(4000), append(d.number(50), 1)
		divides(t, ok(nat.Mul(a, b)), append(d.number(3000), 1))
		common(t, ok(nat.Mul(a, c)), ok(nat.Mul(b, c)), c)
	}
}

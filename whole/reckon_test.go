package whole_test

import (
	"math"
	"math/bits"
	"testing"

	"slackwater/api"
	"slackwater/whole"
)

// P2.3

func TestNegAndAbs(t *testing.T) {
	ok := must(t)
	for _, c := range []struct{ a, neg, abs api.Whole }{
		{n(0), n(0), n(0)}, {n(1), n(-1), n(1)}, {n(-1), n(1), n(1)}, {w(true, 0, 0, 5), w(false, 0, 0, 5), w(false, 0, 0, 5)},
		{n(math.MinInt64), w(false, 0, 1<<31), w(false, 0, 1<<31)}, {full(false, 2048, 9), full(true, 2048, 9), full(false, 2048, 9)},
	} {
		if got := ok(whole.Neg(c.a)); !same(got, c.neg) {
			t.Errorf("Neg of %v: %v", c.a, got)
		}
		if got := ok(whole.Abs(c.a)); !same(got, c.abs) {
			t.Errorf("Abs of %v: %v", c.a, got)
		}
	}
}

func TestAddSubMul(t *testing.T) {
	ok := must(t)
	for _, c := range []struct{ a, b, sum, less, product api.Whole }{
		{n(0), n(0), n(0), n(0), n(0)}, {n(3), n(3), n(6), n(0), n(9)}, {n(-3), n(-3), n(-6), n(0), n(9)}, {n(3), n(-3), n(0), n(6), n(-9)},
		{n(0), n(-5), n(-5), n(5), n(0)}, {n(-5), n(0), n(-5), n(-5), n(0)}, {n(2), n(7), n(9), n(-5), n(14)}, {n(-2), n(7), n(5), n(-9), n(-14)},
		{n(2), n(-7), n(-5), n(9), n(-14)}, {n(-7), n(2), n(-5), n(-9), n(-14)},
		{n(4294967295), n(1), w(false, 0, 1), n(4294967294), n(4294967295)},
		{w(true, 0, 0, 1), n(1), w(true, 1<<32-1, 1<<32-1), w(true, 1, 0, 1), w(true, 0, 0, 1)},
		{w(false, 0, 0, 1), w(true, 0, 0, 1), n(0), w(false, 0, 0, 2), w(true, 0, 0, 0, 0, 1)},
	} {
		if got := ok(whole.Add(c.a, c.b)); !same(got, c.sum) {
			t.Errorf("%v and %v: %v", c.a, c.b, got)
		}
		if got := ok(whole.Sub(c.a, c.b)); !same(got, c.less) {
			t.Errorf("%v less %v: %v", c.a, c.b, got)
		}
		if got := ok(whole.Mul(c.a, c.b)); !same(got, c.product) {
			t.Errorf("%v times %v: %v", c.a, c.b, got)
		}
	}
}

// wide is a sum of 128 bits with a sign in its highest one, as a number.
func wide(high, low uint64) api.Whole {
	neg := high>>63 == 1
	if neg {
		var borrow uint64
		low, borrow = bits.Sub64(0, low, 0)
		high, _ = bits.Sub64(0, high, borrow)
	}
	return trimmed(neg, uint32(low), uint32(low>>32), uint32(high), uint32(high>>32))
}

// wideProduct is a product of two numbers of 64 bits with a sign.
func wideProduct(x, y int64) api.Whole {
	high, low := bits.Mul64(uint64(x), uint64(y))
	if x < 0 {
		high -= uint64(y)
	}
	if y < 0 {
		high -= uint64(x)
	}
	return wide(high, low)
}

func TestReckonsAsIn128Bits(t *testing.T) {
	ok := must(t)
	numbers := edges()
	d := dice(1)
	for i := range 60 {
		numbers = append(numbers, int64(d.next())>>(i%64))
	}
	for _, x := range numbers {
		for _, y := range numbers {
			low, carry := bits.Add64(uint64(x), uint64(y), 0)
			high, _ := bits.Add64(uint64(x>>63), uint64(y>>63), carry)
			if got := ok(whole.Add(n(x), n(y))); !same(got, wide(high, low)) {
				t.Fatalf("%d and %d: %v", x, y, got)
			}
			low, carry = bits.Sub64(uint64(x), uint64(y), 0)
			high, _ = bits.Sub64(uint64(x>>63), uint64(y>>63), carry)
			if got := ok(whole.Sub(n(x), n(y))); !same(got, wide(high, low)) {
				t.Fatalf("%d less %d: %v", x, y, got)
			}
			if got := ok(whole.Mul(n(x), n(y))); !same(got, wideProduct(x, y)) {
				t.Fatalf("%d times %d: %v", x, y, got)
			}
		}
	}
}

// P2.4

func TestDivMod(t *testing.T) {
	for _, c := range []struct{ a, b, q, r api.Whole }{
		{n(7), n(2), n(3), n(1)}, {n(-7), n(2), n(-4), n(1)}, {n(7), n(-2), n(-3), n(1)}, {n(-7), n(-2), n(4), n(1)},
		{n(6), n(2), n(3), n(0)}, {n(-6), n(2), n(-3), n(0)}, {n(6), n(-2), n(-3), n(0)}, {n(-6), n(-2), n(3), n(0)},
		{n(0), n(5), n(0), n(0)}, {n(0), n(-5), n(0), n(0)}, {n(1), n(5), n(0), n(1)}, {n(1), n(-5), n(0), n(1)},
		{n(-1), n(5), n(-1), n(4)}, {n(-1), n(-5), n(1), n(4)}, {n(-5), n(5), n(-1), n(0)},
		// one more makes a quotient of a word more; a rest of a word less than the divisor
		{w(true, 1<<32-1, 1<<32-1, 1), n(2), w(true, 0, 0, 1), n(1)}, {n(-1), w(false, 0, 0, 1), n(-1), w(false, 1<<32-1, 1<<32-1)},
		{w(true, 1<<32-1, 1<<32-1), w(true, 0, 0, 1), n(1), n(1)},
	} {
		q, r, e := whole.DivMod(c.a, c.b)
		if !same(q, c.q) || !same(r, c.r) || e != api.OK {
			t.Errorf("DivMod of %v and %v: %v, %v, %v", c.a, c.b, q, r, e)
		}
	}
	for _, a := range []api.Whole{n(0), n(1), n(-1), full(true, 2048, 1)} {
		q, r, e := whole.DivMod(a, n(0))
		if !nothing(q) || !nothing(r) || e != api.ErrZero {
			t.Errorf("over 0: %v, %v, %v", q, r, e)
		}
	}
}

func TestDivModOfSmallNumbers(t *testing.T) {
	for a := int64(-40); a <= 40; a++ {
		for b := int64(-12); b <= 12; b++ {
			if b == 0 {
				continue
			}
			size := max(b, -b)
			r := (a%size + size) % size
			gotQ, gotR, e := whole.DivMod(n(a), n(b))
			if !same(gotQ, n((a-r)/b)) || !same(gotR, n(r)) || e != api.OK {
				t.Errorf("DivMod of %d and %d: %v, %v, %v", a, b, gotQ, gotR, e)
			}
		}
	}
}

// P2.5

func TestGcd(t *testing.T) {
	ok := must(t)
	for _, c := range []struct{ a, b, want api.Whole }{
		{n(0), n(0), n(0)}, {n(-12), n(18), n(6)}, {n(12), n(-18), n(6)}, {n(-12), n(-18), n(6)}, {n(0), n(-7), n(7)}, {n(-7), n(0), n(7)},
		{n(1), n(-9), n(1)}, {n(-1), n(0), n(1)}, {n(5), n(7), n(1)}, {w(true, 0, 3), w(true, 0, 0, 5), w(false, 0, 1)},
		{full(true, 2048, 3), full(false, 2048, 5), full(false, 2048, 1)}, {full(false, 2048, 1<<32-1), full(true, 1536, 1<<32-1), full(false, 512, 1<<32-1)},
	} {
		if got := ok(whole.Gcd(c.a, c.b)); !same(got, c.want) {
			t.Errorf("Gcd of %d and %d words: Neg %v, %d words", len(c.a.Words), len(c.b.Words), got.Neg, len(got.Words))
		}
	}
}

func TestPower(t *testing.T) {
	ok := must(t)
	for _, c := range []struct {
		a    api.Whole
		n    int
		want api.Whole
	}{
		{n(-2), 3, n(-8)}, {n(0), 0, n(1)}, {n(7), 0, n(1)}, {full(true, 2048, 1), 0, n(1)}, {full(true, 2048, 1), 1, full(true, 2048, 1)},
		{n(0), 1, n(0)}, {n(0), 4096, n(0)}, {n(1), 4096, n(1)}, {n(-1), 4095, n(-1)}, {n(-1), 4096, n(1)},
		{n(10), 18, n(1000000000000000000)}, {n(-3), 39, n(-4052555153018976267)}, {n(2), 4096, powerOfTwo(false, 4096)}, {n(-2), 4095, powerOfTwo(true, 4095)},
		// just not too long
		{n(-1 << 15), 4096, powerOfTwo(false, 61440)}, {powerOfTwo(true, 4369), 15, powerOfTwo(true, 65535)},
		{powerOfTwo(false, 21845), 3, powerOfTwo(false, 65535)}, {powerOfTwo(true, 32767), 2, powerOfTwo(false, 65534)}, {n(1 << 16), 4095, powerOfTwo(false, 65520)},
	} {
		if got := ok(whole.Power(c.a, c.n)); !same(got, c.want) {
			t.Errorf("Power %d of %d words: Neg %v, %d words", c.n, len(c.a.Words), got.Neg, len(got.Words))
		}
	}
}

func TestPowerRefuses(t *testing.T) {
	for _, c := range []struct {
		a    api.Whole
		n    int
		want api.Errno
	}{
		{n(1), -1, api.ErrArg}, {n(1), 4097, api.ErrArg}, {n(0), math.MinInt, api.ErrArg}, {n(0), math.MaxInt, api.ErrArg},
		{full(false, 2048, 1), 4097, api.ErrArg}, {w(true), 4097, api.ErrNormal}, {full(false, 2049, 1), -1, api.ErrLong},
		{n(1 << 16), 4096, api.ErrLong}, {n(-1 << 16), 4096, api.ErrLong}, {powerOfTwo(true, 32768), 2, api.ErrLong}, {powerOfTwo(false, 21846), 3, api.ErrLong},
		{powerOfTwo(true, 13108), 5, api.ErrLong}, {full(true, 2048, 1), 2, api.ErrLong}, {full(true, 2048, 1), 3, api.ErrLong}, {full(true, 2048, 1), 4096, api.ErrLong},
		{n(math.MaxInt64), 4096, api.ErrLong},
	} {
		got, e := whole.Power(c.a, c.n)
		refused(t, "Power", got, e, c.want)
	}
}

func TestPowerIsAProduct(t *testing.T) {
	ok := must(t)
	for _, x := range []int64{0, 1, -1, 2, -2, 3, -10, 65537, -4294967295, math.MinInt64} {
		want := n(1)
		for k := range 200 {
			if got := ok(whole.Power(n(x), k)); !same(got, want) {
				t.Fatalf("Power %d of %d: %v", k, x, got)
			}
			want = ok(whole.Mul(want, n(x)))
		}
	}
}

// P2.7

func TestLaws(t *testing.T) {
	ok := must(t)
	d := dice(2)
	for i := range 4000 {
		k := 1 + i%20
		if i%500 == 0 {
			k = 680
		}
		a, b, c := d.number(k), d.number(k), d.number(k)
		sum, product := ok(whole.Add(a, b)), ok(whole.Mul(a, b))
		if !same(sum, ok(whole.Add(b, a))) || !same(ok(whole.Add(sum, c)), ok(whole.Add(a, ok(whole.Add(b, c))))) {
			t.Fatal("sums hang on their order", a, b, c)
		}
		if !same(product, ok(whole.Mul(b, a))) || !same(ok(whole.Mul(product, c)), ok(whole.Mul(a, ok(whole.Mul(b, c))))) {
			t.Fatal("products hang on their order", a, b, c)
		}
		if !same(ok(whole.Mul(sum, c)), ok(whole.Add(ok(whole.Mul(a, c)), ok(whole.Mul(b, c))))) {
			t.Fatal("a product of a sum", a, b, c)
		}
		if !same(ok(whole.Sub(sum, b)), a) || !same(ok(whole.Sub(sum, a)), b) {
			t.Fatal("Sub of Add", a, b)
		}
		if !same(ok(whole.Sub(a, b)), ok(whole.Add(a, ok(whole.Neg(b))))) || !nothing(ok(whole.Add(a, ok(whole.Neg(a))))) {
			t.Fatal("Neg", a, b)
		}
		divides(t, a, b)
		givesBack(t, a, b, c)
		common(t, ok(whole.Mul(a, c)), ok(whole.Mul(b, c)), c)
	}
}

// divides looks whether q times b and r is a, r from 0 on and below b's size.
func divides(t *testing.T, a, b api.Whole) {
	t.Helper()
	ok := must(t)
	if nothing(b) {
		return
	}
	q, r, e := whole.DivMod(a, b)
	if e != api.OK || !oneForm(q) || !oneForm(r) || r.Neg {
		t.Fatal("DivMod", a, b, q, r, e)
	}
	if c, e := whole.Compare(r, ok(whole.Abs(b))); c >= 0 || e != api.OK {
		t.Fatal("the rest is not below the divisor's size", a, b, r)
	}
	if !same(ok(whole.Add(ok(whole.Mul(q, b)), r)), a) {
		t.Fatal("q times b and r is not a", a, b, q, r)
	}
}

// givesBack looks whether DivMod of a product and a number more below the divisor's size gives both back.
func givesBack(t *testing.T, q, b, more api.Whole) {
	t.Helper()
	ok := must(t)
	if nothing(b) {
		return
	}
	r := ok(rest(more, b))
	gotQ, gotR, e := whole.DivMod(ok(whole.Add(ok(whole.Mul(q, b)), r)), b)
	if !same(gotQ, q) || !same(gotR, r) || e != api.OK {
		t.Fatal("DivMod does not give back", q, b, r, gotQ, gotR, e)
	}
}

// common looks whether Gcd divides both numbers, is divided by c, which divides both, and leaves 1.
func common(t *testing.T, a, b, c api.Whole) {
	t.Helper()
	ok := must(t)
	g := ok(whole.Gcd(a, b))
	if nothing(g) {
		if !nothing(a) || !nothing(b) {
			t.Fatal("Gcd is 0", a, b)
		}
		return
	}
	if g.Neg || !nothing(ok(rest(a, g))) || !nothing(ok(rest(b, g))) || !nothing(ok(rest(g, c))) {
		t.Fatal("Gcd does not divide", a, b, g)
	}
	if !same(ok(whole.Gcd(ok(quotient(a, g)), ok(quotient(b, g)))), n(1)) {
		t.Fatal("Gcd leaves something in common", a, b, g)
	}
}

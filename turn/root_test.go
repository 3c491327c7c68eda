package turn_test

import (
	"math"
	"testing"

	"slackwater/api"
	"slackwater/ratio"
	floats "slackwater/real"
	"slackwater/turn"
)

// The steps that the document names, each in a function of its own, which no compiler joins with another.

//go:noinline
func plus(x, y float64) float64 { return x + y }

//go:noinline
func times(x, y float64) float64 { return x * y }

//go:noinline
func over(x, y float64) float64 { return x / y }

// number goes by the steps that the document names.
func number(a api.Turn) (re, im float64) {
	e, left := 8*a.Part/a.Whole, 8*a.Part%a.Whole
	if e%2 == 1 {
		left = a.Whole - left
	}
	y := times(over(float64(left), float64(a.Whole)), math.Float64frombits(0x3FE921FB54442D18))
	q := times(y, y)
	h := over(-1, 1307674368000)
	for _, d := range []float64{6227020800, -39916800, 362880, -5040, 120, -6} {
		h = plus(times(h, q), over(1, d))
	}
	s := plus(y, times(times(y, q), h))
	h = over(1, 20922789888000)
	for _, d := range []float64{-87178291200, 479001600, -3628800, 40320, -720, 24, -2} {
		h = plus(times(h, q), over(1, d))
	}
	c := plus(1, times(q, h))
	p := [8][2]float64{{c, s}, {s, c}, {-s, c}, {-c, s}, {-c, -s}, {-s, -c}, {s, -c}, {c, -s}}[e]
	return clean(p[0]), clean(p[1])
}

// clean has +0 for either nought.
func clean(x float64) float64 {
	if x == 0 {
		return 0
	}
	return x
}

// are tells whether a number's parts are these two, to the bit.
func are(z complex128, re, im float64) bool {
	return math.Float64bits(re) == math.Float64bits(real(z)) && math.Float64bits(im) == math.Float64bits(imag(z))
}

// root is the number at a turn, which must be told.
func root(t *testing.T, a api.Turn) complex128 {
	t.Helper()
	z, e := turn.Root(a)
	if e != api.OK {
		t.Fatalf("Root(%v): %v", a, e)
	}
	return z
}

// P8.7, the noughts by their sign.
func TestRootOfQuarters(t *testing.T) {
	for _, c := range []struct {
		a      api.Turn
		re, im float64
	}{{at(0, 1), 1, 0}, {at(1, 4), 0, 1}, {at(1, 2), -1, 0}, {at(3, 4), 0, -1}} {
		if z := root(t, c.a); !are(z, c.re, c.im) {
			t.Errorf("Root(%v): %v", c.a, z)
		}
	}
}

// P8.4: some known ones, to the bit.
func TestRoot(t *testing.T) {
	for _, c := range []struct {
		a      api.Turn
		re, im uint64
	}{
		{at(1, 8), 0x3FE6A09E667F3BCC, 0x3FE6A09E667F3BCD}, {at(7, 8), 0x3FE6A09E667F3BCD, 0xBFE6A09E667F3BCC}, {at(1, 12), 0x3FEBB67AE8584CAB, 0x3FDFFFFFFFFFFFFF}, {at(1, 6), 0x3FDFFFFFFFFFFFFF, 0x3FEBB67AE8584CAB}, {at(1, 3), 0xBFDFFFFFFFFFFFFF, 0x3FEBB67AE8584CAB}, {at(2, 5), 0xBFE9E3779B97F4A8, 0x3FE2CF2304755A5E}, {at(5, 7), 0xBFCC7B90E3024582, 0xBFEF329C0558E969}, {at(989, 56250), 0x3FEFCE1009DF0025, 0x3FBC39330DB7A1CA}, {at(1, top), 0x3FF0000000000000, 0x3E1921FB54442D18}, {at(top-1, top), 0x3FF0000000000000, 0xBE1921FB54442D18}, {at(top/4-1, top), 0x3E1921FB54442D18, 0x3FF0000000000000}, {at(3*(top/4)+1, top), 0x3E1921FB54442D18, 0xBFF0000000000000},
	} {
		if z := root(t, c.a); !are(z, math.Float64frombits(c.re), math.Float64frombits(c.im)) {
			t.Errorf("Root(%v): %x %x", c.a, math.Float64bits(real(z)), math.Float64bits(imag(z)))
		}
	}
}

// P8.4, rule 7: step by step, at edges and at any turns.
func TestRootStepByStep(t *testing.T) {
	d := dice(84)
	l := edges()
	for range 200000 {
		l = append(l, d.turn(t))
	}
	for _, a := range l {
		re, im := number(a)
		if z := root(t, a); !are(z, re, im) {
			t.Errorf("Root(%v): %v, not %v %v", a, z, re, im)
		}
	}
}

// P8.7: what stands at Neg of a turn, half a turn and a quarter further; sizes.
func TestWhatFollowsOfRoot(t *testing.T) {
	d := dice(85)
	l := edges()
	for range 50000 {
		l = append(l, d.turn(t))
	}
	for _, a := range l {
		z := root(t, a)
		re, im := real(z), imag(z)
		if math.Abs(re) > 1 || math.Abs(im) > 1 {
			t.Errorf("Root(%v): %v", a, z)
		}
		if back := root(t, must(t)(turn.Neg(a))); !(a.Whole == 8) && !are(back, re, clean(-im)) {
			t.Errorf("Root of Neg(%v): %v beside %v", a, back, z)
		} else if a.Whole == 8 && (math.Abs(real(back)-re) > 0x1p-52 || math.Abs(imag(back)+im) > 0x1p-52) {
			t.Errorf("Root of Neg(%v): %v beside %v", a, back, z)
		}
		if half, e := turn.Add(a, at(1, 2)); e == api.OK && !are(root(t, half), clean(-re), clean(-im)) {
			t.Errorf("half a turn beyond %v: %v beside %v", a, root(t, half), z)
		}
		if quarter, e := turn.Add(a, at(1, 4)); e == api.OK && !are(root(t, quarter), clean(-im), re) {
			t.Errorf("a quarter beyond %v: %v beside %v", a, root(t, quarter), z)
		}
	}
}

// circle tells, by fractions, what stands at a turn, but for some 2^-90: by the series of powers, from a turn of at most half a one.
func circle(t *testing.T, a api.Turn) (cosine, sine api.Ratio) {
	t.Helper()
	fine := func(r api.Ratio, e api.Errno) api.Ratio {
		t.Helper()
		if e != api.OK {
			t.Fatal(e)
		}
		return r
	}
	part := a.Part
	if 2*part > a.Whole {
		part -= a.Whole
	}
	// The way round, but for less than 10^-30.
	way := fine(ratio.Parse("6283185307179586476925286766559/1000000000000000000000000000000"))
	angle := fine(ratio.Mul(way, fine(ratio.Small(part, a.Whole))))
	sums := [2]api.Ratio{fine(ratio.Small(0, 1)), fine(ratio.Small(0, 1))}
	term := fine(ratio.Small(1, 1))
	for k := range int64(40) {
		if k%4 < 2 {
			sums[k%2] = fine(ratio.Add(sums[k%2], term))
		} else {
			sums[k%2] = fine(ratio.Sub(sums[k%2], term))
		}
		term = fine(ratio.Mul(term, fine(ratio.Mul(angle, fine(ratio.Small(1, k+1))))))
	}
	return sums[0], sums[1]
}

// P8.7: both parts are no farther than 2^-50 from what stands there, so this takes a little less.
func TestRootIsNear(t *testing.T) {
	d := dice(86)
	l := edges()
	for range 150 {
		l = append(l, d.turn(t))
	}
	for _, a := range l {
		z := root(t, a)
		cosine, sine := circle(t, a)
		re, e := floats.Within(real(z), cosine, 0x1p-50-0x1p-65)
		im, f := floats.Within(imag(z), sine, 0x1p-50-0x1p-65)
		if e != api.OK || f != api.OK || !re || !im {
			t.Errorf("Root(%v): %v, %v, %v", a, z, e, f)
		}
	}
}

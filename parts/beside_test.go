package parts_test

import (
	"slices"
	"testing"

	"slackwater/api"
	"slackwater/parts"
	"slackwater/ratio"
)

// P7.3: each part by itself, of two as near the one whose last bit is 0; what is too small is +0.
func TestNearest(t *testing.T) {
	third, nought, tenth := q(1, 3), q(0, 1), q(-1, 10)
	for _, c := range []struct {
		a      api.Gauss
		re, im float64
	}{
		{g(third, nought), 0x1.5555555555555p-2, 0}, {g(nought, third), 0, 0x1.5555555555555p-2}, {g(nought, nought), 0, 0}, {g(q(1, 2), q(-3, 4)), 0.5, -0.75}, {g(tenth, q(5, 1)), -0.1, 5},
		{g(q(1<<53+1, 1), q(1<<53+3, 1)), 0x1p53, 0x1p53 + 4}, {g(q(-1<<53-1, 1), q(-1<<53-3, 1)), -0x1p53, -0x1p53 - 4},
		{g(power(-1074), opposite(power(-1074))), least, -least}, {g(power(-1075), opposite(power(-1075))), 0, 0}, {g(opposite(power(-1076)), power(-65535)), 0, 0}, {g(power(1023), opposite(power(1023))), 0x1p1023, -0x1p1023},
	} {
		if z, e := parts.Nearest(c.a); e != api.OK || !are(z, c.re, c.im) {
			t.Errorf("Nearest of %v %v: %v, %v", c.re, c.im, e, z)
		}
	}
}

// P7.3: a fraction that is as long as may be, close below 1, beside one that is close above it.
func TestNearestOfTheLongest(t *testing.T) {
	great := full(2048, 1<<32-1)
	lesser := slices.Clone(great)
	lesser[0]--
	z, e := parts.Nearest(g(api.Ratio{Neg: true, Num: lesser, Den: great}, api.Ratio{Num: great, Den: lesser}))
	if e != api.OK || !are(z, -1, 1) {
		t.Error(e, z)
	}
}

// P7.3: what may not be, the real part ahead of the imaginary one, and both ahead of what has no nearest float.
func TestNearestRefuses(t *testing.T) {
	huge := power(1024)
	half := must(t)(ratio.Sub(power(1024), power(970)))
	for _, c := range []struct {
		name string
		a    api.Gauss
		want api.Errno
	}{
		{"nothing", api.Gauss{}, api.ErrNormal}, {"a great Re", g(huge, q(1, 2)), api.ErrOver}, {"a great Im", g(q(1, 2), huge), api.ErrOver}, {"both great", g(huge, opposite(huge)), api.ErrOver}, {"a Re that is just too great", g(half, q(0, 1)), api.ErrOver}, {"an Im that is just too great", g(q(0, 1), opposite(half)), api.ErrOver},
		{"long behind nothing", g(api.Ratio{}, api.Ratio{Num: full(2049, 1), Den: list(1)}), api.ErrNormal}, {"nothing behind long", g(api.Ratio{Num: full(2049, 1), Den: list(1)}, api.Ratio{}), api.ErrLong},
	} {
		if z, e := parts.Nearest(c.a); e != c.want || !bare(z) {
			t.Errorf("Nearest, %s: %v, %v", c.name, e, z)
		}
	}
	for name, c := range wrong() {
		for _, other := range []api.Ratio{q(1, 3), q(0, 1), huge} {
			if z, e := parts.Nearest(g(c.a, other)); e != c.want || !bare(z) {
				t.Errorf("Nearest, Re is %s: %v, %v", name, e, z)
			}
			if z, e := parts.Nearest(g(other, c.a)); e != c.want || !bare(z) {
				t.Errorf("Nearest, Im is %s: %v, %v", name, e, z)
			}
		}
	}
	below := must(t)(ratio.Sub(half, power(-9)))
	if z, e := parts.Nearest(g(below, opposite(below))); e != api.OK || !are(z, greatest, -greatest) {
		t.Errorf("Nearest of what is not yet too great: %v, %v", e, z)
	}
}

// P7.3
func TestExact(t *testing.T) {
	for _, c := range []struct {
		re, im float64
		want   api.Gauss
	}{
		{0.5, -0.75, g(q(1, 2), q(-3, 4))}, {0, 0, g(q(0, 1), q(0, 1))}, {low, 1, g(q(0, 1), q(1, 1))}, {-1, low, g(q(-1, 1), q(0, 1))}, {0.1, 3, g(q(3602879701896397, 1<<55), q(3, 1))}, {least, -0x1p1023, g(power(-1074), opposite(power(1023)))}, {-0x1p-1022, 0x1p32, g(opposite(power(-1022)), q(1<<32, 1))},
	} {
		if a, e := parts.Exact(complex(c.re, c.im)); e != api.OK || !same(a, c.want) {
			t.Errorf("Exact(%v %v): %v, %v", c.re, c.im, e, a)
		}
	}
	for _, x := range ends() {
		for _, y := range append(edges(), ends()...) {
			a, e := parts.Exact(complex(x, y))
			b, f := parts.Exact(complex(y, x))
			if e != api.ErrNumber || f != api.ErrNumber || !nothing(a) || !nothing(b) {
				t.Errorf("Exact of %v and %v: %v, %v", x, y, e, f)
			}
		}
	}
}

// P7.4: there and back; -0 comes back as +0.
func TestNearestOfExact(t *testing.T) {
	d := dice(75)
	for i := range 3000 {
		z := complex(d.finite(), d.finite())
		if l := edges(); i < len(l) {
			z = complex(l[i], l[len(l)-1-i])
		}
		back, e := parts.Nearest(exact(t, z))
		if e != api.OK || !parts.Equal(back, z) || !are(back, real(z)+0, imag(z)+0) {
			t.Errorf("Nearest of Exact(%v): %v, %v", z, e, back)
		}
	}
}

// Rule 7: the products and their difference, held against exact ones: each step is the nearest float of what it is exactly.
func TestMulAsFractionsTell(t *testing.T) {
	d := dice(76)
	nearest := func(a api.Ratio, e api.Errno) api.Ratio {
		z, f := parts.Nearest(g(must(t)(a, e), q(0, 1)))
		if f != api.OK {
			t.Fatal(f)
		}
		return exact(t, z).Re
	}
	for range 2000 {
		x, y := complex(d.near(30), d.near(30)), complex(d.near(30), d.near(30))
		a, b, p := exact(t, x), exact(t, y), exact(t, parts.Mul(x, y))
		re := nearest(ratio.Sub(nearest(ratio.Mul(a.Re, b.Re)), nearest(ratio.Mul(a.Im, b.Im))))
		im := nearest(ratio.Add(nearest(ratio.Mul(a.Re, b.Im)), nearest(ratio.Mul(a.Im, b.Re))))
		if !same(p, g(re, im)) {
			t.Errorf("Mul(%v, %v): %v", x, y, parts.Mul(x, y))
		}
	}
}

// Rule 4: Exact's lists share no memory, their spare room neither, with one another or with a later answer's.
func TestExactIsNewMemory(t *testing.T) {
	for _, z := range []complex128{0, 1 + 1i, complex(0.5, 0.5), complex(-3, 0x1p100), complex(0x1p-100, greatest), complex(low, least)} {
		a := exact(t, z)
		want := copied(a)
		for _, words := range [][]uint32{a.Re.Num, a.Re.Den, a.Im.Num, a.Im.Den} {
			was := slices.Clone(words)
			for i := range words[:cap(words)] {
				words[:cap(words)][i] = 77
			}
			copy(words, was)
			if !same(a, want) {
				t.Errorf("Exact(%v): lists share their memory", z)
			}
		}
		clear(a.Re.Num)
		clear(a.Re.Den)
		clear(a.Im.Num)
		clear(a.Im.Den)
		if !same(exact(t, z), want) {
			t.Errorf("Exact(%v): answers share their memory", z)
		}
	}
}

// Rule 4: what Nearest is handed stays as it is, its spare room too.
func TestNearestLeavesItsArgument(t *testing.T) {
	num, den := append(full(3, 7), 9, 9)[:3], append(full(2, 4), 8, 8)[:2]
	a := g(api.Ratio{Num: num, Den: den}, api.Ratio{Neg: true, Num: num, Den: den})
	if _, e := parts.Nearest(a); e != api.OK {
		t.Fatal(e)
	}
	if !slices.Equal(num[:5], []uint32{7, 7, 7, 9, 9}) || !slices.Equal(den[:4], []uint32{4, 4, 8, 8}) {
		t.Error("what was handed in is changed", num[:5], den[:4])
	}
}

// P1: no number of whatever bits makes a call panic, and an answer hangs on it alone.
func TestCalm(t *testing.T) {
	l := append(edges(), ends()...)
	for _, x := range l {
		for _, y := range l {
			a, e := parts.Exact(complex(x, y))
			b, f := parts.Exact(complex(x, y))
			if e != f || !same(a, b) || (e == api.OK) != parts.Finite(complex(x, y)) {
				t.Errorf("Exact(%v %v): %v, %v", x, y, e, f)
			}
			if !alike(parts.Abs(complex(x, y)), parts.Abs(complex(x, y))) {
				t.Errorf("Abs(%v %v) is unlike itself", x, y)
			}
		}
	}
}

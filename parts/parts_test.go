package parts_test

import (
	"math"
	"testing"

	"slackwater/parts"
)

// P7.1: sums and differences, with the signs of their noughts.
func TestAddAndSub(t *testing.T) {
	for _, c := range []struct{ a, b, sum, off [2]float64 }{
		{[2]float64{1, 2}, [2]float64{3, -5}, [2]float64{4, -3}, [2]float64{-2, 7}},
		{[2]float64{0.1, 0x1p53}, [2]float64{0.2, 1}, [2]float64{0.30000000000000004, 0x1p53}, [2]float64{-0.1, 0x1p53 - 1}},
		{[2]float64{0, low}, [2]float64{0, low}, [2]float64{0, low}, [2]float64{0, 0}},
		{[2]float64{low, 0}, [2]float64{0, low}, [2]float64{0, 0}, [2]float64{low, 0}},
		{[2]float64{0, low}, [2]float64{low, 0}, [2]float64{0, 0}, [2]float64{0, low}},
		{[2]float64{1, -1}, [2]float64{-1, -1}, [2]float64{0, -2}, [2]float64{2, 0}},
		{[2]float64{greatest, -greatest}, [2]float64{greatest, -greatest}, [2]float64{endless, -endless}, [2]float64{0, 0}},
		{[2]float64{endless, endless}, [2]float64{-endless, endless}, [2]float64{no, endless}, [2]float64{endless, no}},
		{[2]float64{no, 1}, [2]float64{1, endless}, [2]float64{no, endless}, [2]float64{no, -endless}},
		{[2]float64{least, 0}, [2]float64{least, no}, [2]float64{2 * least, no}, [2]float64{0, no}},
	} {
		a, b := complex(c.a[0], c.a[1]), complex(c.b[0], c.b[1])
		if z := parts.Add(a, b); !are(z, c.sum[0], c.sum[1]) {
			t.Errorf("Add(%v, %v): %v", a, b, z)
		}
		if z := parts.Sub(a, b); !are(z, c.off[0], c.off[1]) {
			t.Errorf("Sub(%v, %v): %v", a, b, z)
		}
	}
}

// P7.1: the product, and which of its steps are rounded.
func TestMul(t *testing.T) {
	x := 1 + 0x1p-30
	for _, c := range []struct {
		a, b   complex128
		re, im float64
	}{
		{1 + 2i, 3 - 1i, 5, 5}, {3 - 1i, 1 + 2i, 5, 5}, {2 + 3i, 5 + 7i, -11, 29}, {2i, 2i, -4, 0}, {-2, 3i, low, -6},
		{complex(1e308, 0), complex(0, 1e308), 0, endless}, {complex(1e308, 1e308), complex(1e308, 1e308), no, endless}, {complex(1e200, 1), complex(1e200, -1e200), endless, -endless},
		{complex(x, 1), complex(x, 1), 0x1p-29, 2 * x}, {complex(1, x), complex(1, x), -0x1p-29, 2 * x}, {complex(x, 1), complex(-1, x), -x - x, 0x1p-29}, {complex(1, x), complex(x, -1), x + x, 0x1p-29},
		{0, 0, 0, 0}, {complex(low, 0), complex(0, 0), low, 0}, {complex(0, low), complex(0, 0), 0, 0}, {complex(0, low), complex(0, low), 0, low}, {complex(low, low), complex(low, low), 0, 0}, {complex(-1, 0), complex(0, 0), low, 0}, {complex(-1, 0), complex(0, low), 0, 0}, {complex(1, 0), complex(0, low), 0, 0}, {complex(-1, low), complex(0, 0), 0, low},
		{complex(endless, 0), complex(1, 0), endless, no}, {complex(endless, endless), complex(1, 1), no, endless}, {complex(endless, 1), complex(-2, 3), -endless, endless}, {complex(endless, 0), 0, no, no}, {complex(no, 0), complex(1, 0), no, no}, {complex(1, no), complex(1, 1), no, no}, {complex(1, 2), complex(no, 3), no, no},
		{complex(least, 0), complex(0.5, 0.75), 0, least}, {complex(least, least), complex(0.5, -0.5), 0, 0}, {complex(least, 0), complex(-0.5, 0), low, 0},
	} {
		if z := parts.Mul(c.a, c.b); !are(z, c.re, c.im) {
			t.Errorf("Mul(%v, %v): %v, not %v %v", c.a, c.b, z, c.re, c.im)
		}
	}
}

// P7.1: by whatever real, with the signs of noughts.
func TestScale(t *testing.T) {
	for _, c := range []struct {
		x      float64
		z      complex128
		re, im float64
	}{
		{2, 3 - 4i, 6, -8}, {0.5, 1 + 1i, 0.5, 0.5}, {0.1, 3 + 0.1i, 0.30000000000000004, 0.010000000000000002}, {-1, complex(0, low), low, 0}, {1, complex(0, low), 0, low}, {0, complex(-5, 5), low, 0}, {low, complex(-5, 5), 0, low},
		{1e200, complex(1e200, -1e200), endless, -endless}, {endless, complex(0, 1), no, endless}, {-endless, complex(1, -1), -endless, endless}, {0, complex(endless, no), no, no}, {no, complex(1, 0), no, no}, {2, complex(endless, 1), endless, 2}, {2, complex(1, no), 2, no}, {0.5, complex(least, -3*least), 0, -2 * least}, {0.5, complex(-least, 0), low, 0},
	} {
		if z := parts.Scale(c.x, c.z); !are(z, c.re, c.im) {
			t.Errorf("Scale(%v, %v): %v, not %v %v", c.x, c.z, z, c.re, c.im)
		}
	}
}

// P7.1: the sign of a 0 becomes the other one.
func TestConjAndNeg(t *testing.T) {
	l := append(edges(), ends()...)
	for _, re := range l {
		for _, im := range l {
			z := complex(re, im)
			if c := parts.Conj(z); !are(c, re, turned(im)) {
				t.Errorf("Conj(%v): %v", z, c)
			}
			if c := parts.Neg(z); !are(c, turned(re), turned(im)) {
				t.Errorf("Neg(%v): %v", z, c)
			}
		}
	}
	if z := parts.Neg(0); !are(z, low, low) {
		t.Error("Neg(0)", z)
	}
	if z := parts.Conj(1); !are(z, 1, low) {
		t.Error("Conj(1)", z)
	}
}

// P7.1: every call goes by the steps that the document names, at all numbers.
func TestStepByStep(t *testing.T) {
	d := dice(71)
	for range 200000 {
		a, b, x := d.number(), d.number(), d.real()
		ar, ai, br, bi := real(a), imag(a), real(b), imag(b)
		if z := parts.Add(a, b); !are(z, plus(ar, br), plus(ai, bi)) {
			t.Errorf("Add(%v, %v): %v", a, b, z)
		}
		if z := parts.Sub(a, b); !are(z, less(ar, br), less(ai, bi)) {
			t.Errorf("Sub(%v, %v): %v", a, b, z)
		}
		if z := parts.Mul(a, b); !are(z, less(times(ar, br), times(ai, bi)), plus(times(ar, bi), times(ai, br))) {
			t.Errorf("Mul(%v, %v): %v", a, b, z)
		}
		if z := parts.Scale(x, a); !are(z, times(x, ar), times(x, ai)) {
			t.Errorf("Scale(%v, %v): %v", x, a, z)
		}
	}
}

// Rule 7: what one call rounds stays so where the next one adds to it.
func TestNoneAreJoined(t *testing.T) {
	d := dice(72)
	for range 20000 {
		x, y, z, sum := d.near(2), d.near(2), complex(d.near(2), d.near(2)), complex(d.near(2), d.near(2))
		scaled := parts.Add(parts.Scale(x, z), sum)
		if !are(scaled, plus(times(x, real(z)), real(sum)), plus(times(x, imag(z)), imag(sum))) {
			t.Errorf("Scale(%v, %v), then %v added: %v", x, z, sum, scaled)
		}
		taken := parts.Sub(sum, parts.Scale(y, z))
		if !are(taken, less(real(sum), times(y, real(z))), less(imag(sum), times(y, imag(z)))) {
			t.Errorf("%v less Scale(%v, %v): %v", sum, y, z, taken)
		}
		added := parts.Abs(z) + x
		if !alike(added, plus(size(z), x)) {
			t.Errorf("Abs(%v), then %v added: %v", z, x, added)
		}
	}
}

// P7.2: by the bits, but that all NaN are one.
func TestSame(t *testing.T) {
	l := append(edges(), ends()...)
	for i, x := range l {
		for j, y := range l {
			// The last three of ends are NaNs.
			want := i == j || i >= len(l)-3 && j >= len(l)-3
			for _, z := range []float64{1, low, no, -endless} {
				if parts.Same(complex(x, z), complex(y, z)) != want || parts.Same(complex(z, x), complex(z, y)) != want {
					t.Errorf("Same of %v and %v, beside %v: not %v", x, y, z, want)
				}
			}
			if parts.Same(complex(x, 1), complex(y, 2)) || parts.Same(complex(1, x), complex(2, y)) || parts.Same(complex(x, 0), complex(y, low)) {
				t.Errorf("Same of %v and %v beside what is unlike", x, y)
			}
		}
	}
	if parts.Same(complex(1, 2), complex(2, 1)) {
		t.Error("Same of parts that changed places")
	}
}

// P7.2: as the language holds reals against each other.
func TestEqual(t *testing.T) {
	l := append(edges(), ends()...)
	for _, x := range l {
		for _, y := range l {
			want := x == y
			if parts.Equal(complex(x, 1), complex(y, 1)) != want || parts.Equal(complex(1, x), complex(1, y)) != want || parts.Equal(complex(x, y), complex(y, x)) != want {
				t.Errorf("Equal of %v and %v: not %v", x, y, want)
			}
			if parts.Equal(complex(x, 1), complex(y, 2)) || parts.Equal(complex(1, x), complex(2, y)) || parts.Equal(complex(x, no), complex(y, no)) || parts.Equal(complex(no, x), complex(no, y)) {
				t.Errorf("Equal of %v and %v beside what is unlike", x, y)
			}
			if !parts.Equal(complex(1, 0), complex(1, low)) || !parts.Equal(complex(low, -endless), complex(0, -endless)) {
				t.Error("Equal of noughts")
			}
		}
	}
}

// P7.2
func TestFinite(t *testing.T) {
	for _, x := range edges() {
		for _, y := range edges() {
			if !parts.Finite(complex(x, y)) {
				t.Errorf("Finite(%v %v)", x, y)
			}
		}
		for _, y := range ends() {
			if parts.Finite(complex(x, y)) || parts.Finite(complex(y, x)) || parts.Finite(complex(y, -y)) {
				t.Errorf("Finite of %v and %v", x, y)
			}
		}
	}
}

// P7.4: of all numbers, those that are not finite among them.
func TestWhatFollowsOfMul(t *testing.T) {
	d := dice(73)
	for range 200000 {
		a, b := d.number(), d.number()
		p := parts.Mul(a, b)
		if z := parts.Mul(b, a); !parts.Same(p, z) || !are(z, real(p), imag(p)) {
			t.Errorf("Mul(%v, %v): %v; the other way round %v", a, b, p, z)
		}
		c, z := parts.Conj(p), parts.Mul(parts.Conj(a), parts.Conj(b))
		if math.IsNaN(real(c)) || math.IsNaN(imag(c)) || math.IsNaN(real(z)) || math.IsNaN(imag(z)) {
			continue
		}
		if !parts.Equal(c, z) {
			t.Errorf("%v and %v: Conj of Mul %v, Mul of the Conjs %v", a, b, c, z)
		}
	}
}

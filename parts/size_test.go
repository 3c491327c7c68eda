package parts_test

import (
	"math"
	"testing"

	"slackwater/parts"
)

// size goes by the steps that the document names.
func size(z complex128) float64 {
	m, n := math.Abs(real(z)), math.Abs(imag(z))
	switch {
	case m != m || n != n:
		return no
	case m > greatest || n > greatest:
		return endless
	case n > m:
		m, n = n, m
	}
	if m == 0 {
		return 0
	}
	q := over(n, m)
	return times(m, root(plus(1, times(q, q))))
}

// P7.2
func TestAbs(t *testing.T) {
	for _, c := range []struct{ re, im, want float64 }{
		{3, 4, 5}, {4, 3, 5}, {-3, 4, 5}, {3, -4, 5}, {-4, -3, 5}, {5, 12, 13}, {1, 1, math.Sqrt2}, {1, 0, 1}, {0, -7, 7}, {low, -7, 7},
		{0, 0, 0}, {low, 0, 0}, {0, low, 0}, {low, low, 0},
		{1e300, 1e300, 1.4142135623730952e300}, {-1e-300, 1e-300, 1.4142135623730952e-300}, {3e-320, 4e-320, 5e-320}, {3e307, -4e307, 5e307},
		{greatest, 0, greatest}, {0, -greatest, greatest}, {greatest, greatest, endless}, {greatest, 1, greatest}, {0x1p1023, 0x1p1023, 0x1.6a09e667f3bcdp1023}, {greatest, 0x1p1023, endless},
		{least, 0, least}, {0, least, least}, {least, least, least}, {2 * least, -2 * least, 3 * least}, {3 * least, 3 * least, 4 * least}, {5 * least, 5 * least, 7 * least}, {1, least, 1}, {greatest, least, greatest},
		{1, 0x1p-26, 1}, {1, 0x1.8p-26, 1 + 0x1p-52},
		{endless, 0, endless}, {-endless, 1, endless}, {1, endless, endless}, {low, -endless, endless}, {endless, -endless, endless}, {-endless, greatest, endless},
		{no, endless, no}, {endless, no, no}, {no, no, no}, {no, 0, no}, {0, no, no}, {1, no, no}, {-endless, no, no}, {no, greatest, no},
	} {
		if x := parts.Abs(complex(c.re, c.im)); !alike(x, c.want) {
			t.Errorf("Abs(%v %v): %v, not %v", c.re, c.im, x, c.want)
		}
	}
}

// P7.2, P7.4: step by step, and what follows of it, at all numbers.
func TestWhatFollowsOfAbs(t *testing.T) {
	d := dice(74)
	for i := range 200000 {
		z := d.number()
		if i%4 == 0 {
			z = complex(d.near(4), d.near(4))
		}
		x := parts.Abs(z)
		if !alike(x, size(z)) || math.Signbit(x) && x == x {
			t.Errorf("Abs(%v): %v, not %v", z, x, size(z))
		}
		if y := parts.Abs(parts.Conj(z)); !alike(x, y) {
			t.Errorf("Abs(%v): %v, of its Conj %v", z, x, y)
		}
		if m := max(math.Abs(real(z)), math.Abs(imag(z))); parts.Finite(z) && x <= greatest && (x < m || 2*(x-m) > m) {
			t.Errorf("Abs(%v): %v beside %v", z, x, m)
		} else if parts.Finite(z) && x != x {
			t.Errorf("Abs(%v) is NaN", z)
		}
	}
}

// P7.4: at the least floats one step is much of a number.
func TestAbsOfTheLeast(t *testing.T) {
	for re := range 40 {
		for im := range 40 {
			x := parts.Abs(complex(float64(re)*least, -float64(im)*least))
			if m := float64(max(re, im)) * least; x < m || 2*x > 3*m {
				t.Errorf("Abs of %d and %d of the least: %v", re, im, x)
			}
		}
	}
}

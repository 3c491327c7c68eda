package height_test

import (
	"math"
	"math/big"
	"slices"
	"testing"

	"slackwater/api"
	"slackwater/height"
)

// The steps that the document names, each in a function of its own, which no compiler joins with another.

//go:noinline
func plus(x, y float64) float64 { return x + y }

//go:noinline
func less(x, y float64) float64 { return x - y }

//go:noinline
func times(x, y float64) float64 { return x * y }

// nearest is a fraction's nearest float, by the library.
func nearest(f *big.Rat) float64 {
	x, _ := f.Float64()
	return x
}

// turned is a rotor's power, by the library's whole numbers: (Far + i Near) to 2t, over the square of its size to t.
func turned(x api.Rotor, t int) (re, im *big.Rat) {
	far, near := big.NewInt(int64(x.Far)), big.NewInt(int64(x.Near))
	product := func(a, b *big.Int) *big.Int { return new(big.Int).Mul(a, b) }
	top, side := big.NewInt(1), big.NewInt(0)
	for range 2 * t {
		top, side = new(big.Int).Sub(product(top, far), product(side, near)), new(big.Int).Add(product(top, near), product(side, far))
	}
	norm := new(big.Int).Add(product(far, far), product(near, near))
	under := norm.Exp(norm, big.NewInt(int64(t)), nil)
	return new(big.Rat).SetFrac(top, under), new(big.Rat).SetFrac(side, under)
}

// level is a port's height at a tick, exactly.
func level(p api.Port, t int) *big.Rat {
	height := rational(p.Mean)
	for _, x := range p.Tides {
		cos, sin := turned(x.Rotor, t)
		height.Add(height, cos.Mul(cos, rational(x.Number.Re)))
		height.Sub(height, sin.Mul(sin, rational(x.Number.Im)))
	}
	return height
}

// product is what a constituent adds at a tick, in floats.
func product(x api.Tide, t int) (re, im float64) {
	cos, sin := turned(x.Rotor, t)
	zr, zi, wr, wi := nearest(rational(x.Number.Re)), nearest(rational(x.Number.Im)), nearest(cos), nearest(sin)
	return less(times(zr, wr), times(zi, wi)), plus(times(zr, wi), times(zi, wr))
}

// off is what At should tell of a near port.
func off(p api.Port, t int) api.Off {
	mean := nearest(rational(p.Mean))
	height, s := mean, 0.0
	for _, x := range p.Tides {
		re, _ := product(x, t)
		height = plus(height, re)
		s = plus(s, math.Abs(nearest(rational(x.Number.Re))))
		s = plus(s, math.Abs(nearest(rational(x.Number.Im))))
	}
	s = plus(s, math.Abs(mean))
	return api.Off{Height: height, Bound: next(times(times(s, float64(len(p.Tides)+4)), 0x1p-50))}
}

// next is the next float above.
func next(x float64) float64 { return math.Nextafter(x, math.Inf(1)) }

// total is what Sum should tell.
func total(p api.Port, t int) complex128 {
	var sumRe, sumIm float64
	for _, x := range p.Tides {
		re, im := product(x, t)
		sumRe, sumIm = plus(sumRe, re), plus(sumIm, im)
	}
	return complex(sumRe, sumIm)
}

// told hands on a height that may not be refused, toldAll a list of them.
func told(t *testing.T) func(x api.Off, e api.Errno) api.Off {
	return func(x api.Off, e api.Errno) api.Off {
		t.Helper()
		if e != api.OK {
			t.Fatalf("answered %v, %v", e, x)
		}
		return x
	}
}

func toldAll(t *testing.T) func(l []api.Off, e api.Errno) []api.Off {
	return func(l []api.Off, e api.Errno) []api.Off {
		t.Helper()
		if e != api.OK {
			t.Fatalf("answered %v, %d heights", e, len(l))
		}
		return l
	}
}

// refused looks whether all calls with a port answer this error, and nothing beside it.
func refused(t *testing.T, what string, p api.Port, at, a, b int, want api.Errno) {
	t.Helper()
	if x, e := height.At(p, at); e != want || !bare(x.Height, x.Bound) {
		t.Errorf("At %d, %s: %v, %v, not %v alone", at, what, e, x, want)
	}
	if s, e := height.Sum(p, at); e != want || !bare(real(s), imag(s)) {
		t.Errorf("Sum %d, %s: %v, %v, not %v alone", at, what, e, s, want)
	}
	refusedSpan(t, what, p, a, b, want)
}

// bare tells whether all are +0, by their bits.
func bare(l ...float64) bool {
	return !slices.ContainsFunc(l, func(x float64) bool { return math.Float64bits(x) != 0 })
}

// refusedSpan looks so at the calls with a span; Each goes over none.
func refusedSpan(t *testing.T, what string, p api.Port, a, b int, want api.Errno) {
	t.Helper()
	if l, e := height.Span(p, a, b); e != want || len(l) > 0 {
		t.Errorf("Span %d to %d, %s: %v, %d heights, not %v alone", a, b, what, e, len(l), want)
	}
	each := height.Each(p, a, b)
	if each == nil {
		t.Fatalf("Each %d to %d, %s: nil", a, b, what)
	}
	each(func(tick int, _ api.Off) bool {
		t.Errorf("Each %d to %d, %s: tells %d", a, b, what, tick)
		return false
	})
}

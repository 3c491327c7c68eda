package stream_test

import (
	"math"
	"math/big"

	"slackwater/api"
)

// The steps that the document names, each in a function of its own, which no compiler joins with another.

//go:noinline
func plus(x, y float64) float64 { return x + y }

//go:noinline
func less(x, y float64) float64 { return x - y }

//go:noinline
func times(x, y float64) float64 { return x * y }

//go:noinline
func over(x, y float64) float64 { return x / y }

// nearest is a fraction's nearest float, by the library.
func nearest(a api.Ratio) float64 {
	x, _ := rational(a).Float64()
	return x
}

// size is that of two finite parts, step by step.
func size(re, im float64) float64 {
	re, im = math.Abs(re), math.Abs(im)
	m, n := max(re, im), min(re, im)
	if m == 0 {
		return 0
	}
	q := over(n, m)
	return times(m, math.Sqrt(plus(1, times(q, q))))
}

// turned is a rotor's power, by the library's whole numbers: (Far + i Near) to 2t, over the square of its size to t.
func turned(x api.Rotor, t int) (re, im *big.Rat) {
	far, near := big.NewInt(int64(x.Far)), big.NewInt(int64(x.Near))
	product := func(a, b *big.Int) *big.Int { return new(big.Int).Mul(a, b) }
	top, side := big.NewInt(1), big.NewInt(0)
	for range 2 * t {
		top, side = new(big.Int).Sub(product(top, far), product(side, near)), new(big.Int).Add(product(top, near), product(side, far))
	}
	norm := new(big.Int).Add(product(far, far), product(near, near))
	under := norm.Exp(norm, big.NewInt(int64(t)), nil)
	return new(big.Rat).SetFrac(top, under), new(big.Rat).SetFrac(side, under)
}

// rateOf is a near port's rate at a tick in floats.
func rateOf(p api.Port, t int) complex128 {
	var sumRe, sumIm float64
	for _, x := range p.Tides {
		cos, sin := turned(x.Rotor, t)
		zr, zi, wr, wi := nearest(x.Number.Re), nearest(x.Number.Im), nearest(fraction(cos)), nearest(fraction(sin))
		sumRe = plus(sumRe, less(times(zr, wr), times(zi, wi)))
		sumIm = plus(sumIm, plus(times(zr, wi), times(zi, wr)))
	}
	return complex(sumRe, sumIm)
}

// squareOf is the square of a port's speed at a tick, exactly.
func squareOf(p api.Port, t int) *big.Rat {
	times := func(a, b *big.Rat) *big.Rat { return new(big.Rat).Mul(a, b) }
	east, north := new(big.Rat), new(big.Rat)
	for _, x := range p.Tides {
		cos, sin := turned(x.Rotor, t)
		re, im := rational(x.Number.Re), rational(x.Number.Im)
		east.Add(east, times(re, cos)).Sub(east, times(im, sin))
		north.Add(north, times(re, sin)).Add(north, times(im, cos))
	}
	return new(big.Rat).Add(times(east, east), times(north, north))
}

// slacksOf are a span's slacks by their definition: each run that there may be is looked at by itself.
func slacksOf(p api.Port, a, b int) []api.Slack {
	squares := map[int]*big.Rat{}
	for t := a; t < b; t++ {
		squares[t] = squareOf(p, t)
	}
	var all []api.Slack
	for first := a + 1; first < b-1; first++ {
		if squares[first-1].Cmp(squares[first]) <= 0 {
			continue
		}
		for last := first; last < b-1 && squares[last].Cmp(squares[first]) == 0; last++ {
			if squares[last+1].Cmp(squares[last]) > 0 {
				all = append(all, api.Slack{Tick: first, Last: last, Square: fraction(squares[first])})
			}
		}
	}
	return all
}

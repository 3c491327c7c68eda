package shallow_test

import (
	"math/big"
	"slices"

	"slackwater/api"
)

// plane is a complex fraction of the library's.
type plane struct {
	re, im *big.Rat
}

func planeOf(a api.Gauss) plane { return plane{rational(a.Re), rational(a.Im)} }

// rational writes the library's fraction of one in its one form.
func rational(a api.Ratio) *big.Rat {
	f := new(big.Rat).SetFrac(natural(a.Num), natural(a.Den))
	if a.Neg {
		f.Neg(f)
	}
	return f
}

func natural(words []uint32) *big.Int {
	n := new(big.Int)
	for _, w := range slices.Backward(words) {
		n.Add(n.Lsh(n, 32), big.NewInt(int64(w)))
	}
	return n
}

func (a plane) gauss() api.Gauss { return g(fraction(a.re), fraction(a.im)) }

func (a plane) plus(b plane) plane {
	return plane{new(big.Rat).Add(a.re, b.re), new(big.Rat).Add(a.im, b.im)}
}

func (a plane) times(b plane) plane {
	part := func(x, y *big.Rat) *big.Rat { return new(big.Rat).Mul(x, y) }
	return plane{new(big.Rat).Sub(part(a.re, b.re), part(a.im, b.im)), new(big.Rat).Add(part(a.re, b.im), part(a.im, b.re))}
}

func sumOf(a, b api.Gauss) api.Gauss { return planeOf(a).plus(planeOf(b)).gauss() }

func productOf(a, b api.Gauss) api.Gauss { return planeOf(a).times(planeOf(b)).gauss() }

// numberOf is the number of rounds at a tick, each multiplied so often.
func numberOf(l []api.Round, tick int) api.Gauss {
	sum := planeOf(z(0, 0))
	for _, x := range l {
		n, by := planeOf(x.Number), planeOf(x.Unit)
		for range tick {
			n = n.times(by)
		}
		sum = sum.plus(n)
	}
	return sum.gauss()
}

// mergedOf merges by the texts of the Units.
func mergedOf(l []api.Round) []api.Round {
	places := map[string]int{}
	var units []api.Gauss
	var sums []plane
	for _, x := range l {
		u := planeOf(x.Unit)
		key := u.re.String() + " " + u.im.String()
		place, there := places[key]
		if !there {
			places[key] = len(units)
			units, sums = append(units, x.Unit), append(sums, planeOf(x.Number))
			continue
		}
		sums[place] = sums[place].plus(planeOf(x.Number))
	}
	var rounds []api.Round
	for i, u := range units {
		rounds = append(rounds, o(u, sums[i].gauss()))
	}
	return rounds
}

// productsOf are the products of all pairs, those of a's first one ahead, not merged.
func productsOf(a, b []api.Round) []api.Round {
	var l []api.Round
	for _, x := range a {
		for _, y := range b {
			l = append(l, o(productOf(x.Unit, y.Unit), productOf(x.Number, y.Number)))
		}
	}
	return l
}

package normal_test

import (
	"math/big"
	"slices"

	"slackwater/api"
)

// plane is a complex fraction of the library's.
type plane struct {
	re, im *big.Rat
}

func planeOf(a api.Gauss) plane { return plane{rational(a.Re), rational(a.Im)} }

// rational writes the library's fraction of one in its one form.
func rational(a api.Ratio) *big.Rat {
	f := new(big.Rat).SetFrac(natural(a.Num), natural(a.Den))
	if a.Neg {
		f.Neg(f)
	}
	return f
}

func natural(words []uint32) *big.Int {
	n := new(big.Int)
	for _, w := range slices.Backward(words) {
		n.Add(n.Lsh(n, 32), big.NewInt(int64(w)))
	}
	return n
}

func (a plane) gauss() api.Gauss { return g(fraction(a.re), fraction(a.im)) }

func (a plane) conjugate() plane { return plane{a.re, new(big.Rat).Neg(a.im)} }

// turned is a rotor's power, by the library's whole numbers: (Far + i Near) to 2t, over the square of its size to t.
func turned(x api.Rotor, t int) plane {
	far, near := big.NewInt(int64(x.Far)), big.NewInt(int64(x.Near))
	product := func(a, b *big.Int) *big.Int { return new(big.Int).Mul(a, b) }
	top, side := big.NewInt(1), big.NewInt(0)
	for range 2 * t {
		top, side = new(big.Int).Sub(product(top, far), product(side, near)), new(big.Int).Add(product(top, near), product(side, far))
	}
	norm := new(big.Int).Add(product(far, far), product(near, near))
	under := norm.Exp(norm, big.NewInt(int64(t)), nil)
	return plane{new(big.Rat).SetFrac(top, under), new(big.Rat).SetFrac(side, under)}
}

// allTurned are rotors' powers, rotor by rotor, tick by tick.
func allTurned(ticks []int, rotors []api.Rotor) [][]plane {
	var all [][]plane
	for _, u := range rotors {
		var powers []plane
		for _, t := range ticks {
			powers = append(powers, turned(u, t))
		}
		all = append(all, powers)
	}
	return all
}

// way makes fractions one by one as the document names them, and keeps whether one had more than 2,048 words.
type way struct {
	long bool
}

func (w *way) made(f *big.Rat) *big.Rat {
	const bits = 32 * 2048
	w.long = w.long || f.Num().BitLen() > bits || f.Denom().BitLen() > bits
	return f
}

func (w *way) product(x, y *big.Rat) *big.Rat { return w.made(new(big.Rat).Mul(x, y)) }

func (w *way) sum(x, y *big.Rat) *big.Rat { return w.made(new(big.Rat).Add(x, y)) }

func (w *way) difference(x, y *big.Rat) *big.Rat { return w.made(new(big.Rat).Sub(x, y)) }

func (w *way) times(a, b plane) plane {
	return plane{w.difference(w.product(a.re, b.re), w.product(a.im, b.im)), w.sum(w.product(a.re, b.im), w.product(a.im, b.re))}
}

func (w *way) plus(a, b plane) plane { return plane{w.sum(a.re, b.re), w.sum(a.im, b.im)} }

func (w *way) less(a, b plane) plane {
	return plane{w.difference(a.re, b.re), w.difference(a.im, b.im)}
}

func (w *way) norm(a plane) *big.Rat { return w.sum(w.product(a.re, a.re), w.product(a.im, a.im)) }

// rowsOf are the equations by their definition; whether they are too long on the way, too.
func rowsOf(ticks []int, rotors []api.Rotor) ([][]api.Gauss, bool) {
	var w way
	var rows [][]api.Gauss
	all := allTurned(ticks, rotors)
	for _, u := range all {
		var row []api.Gauss
		for _, v := range all {
			sum := planeOf(z(0, 0))
			for i := range ticks {
				sum = w.plus(sum, w.times(u[i].conjugate(), v[i]))
			}
			row = append(row, sum.gauss())
		}
		rows = append(rows, row)
	}
	return rows, w.long
}

// sideOf is their right side so.
func sideOf(ticks []int, heights []api.Gauss, rotors []api.Rotor) ([]api.Gauss, bool) {
	var w way
	var side []api.Gauss
	for _, u := range rotors {
		sum := planeOf(z(0, 0))
		for i, t := range ticks {
			sum = w.plus(sum, w.times(turned(u, t).conjugate(), planeOf(heights[i])))
		}
		side = append(side, sum.gauss())
	}
	return side, w.long
}

// leftOf is what is left of heights so.
func leftOf(ticks []int, heights []api.Gauss, rotors []api.Rotor, numbers []api.Gauss) (api.Ratio, bool) {
	var w way
	left := new(big.Rat)
	for i, t := range ticks {
		rest := planeOf(heights[i])
		for k, u := range rotors {
			rest = w.less(rest, w.times(planeOf(numbers[k]), turned(u, t)))
		}
		left = w.sum(left, w.norm(rest))
	}
	return fraction(left), w.long
}

// heightsOf are the sums of the rotors' powers times some numbers.
func heightsOf(ticks []int, rotors []api.Rotor, numbers []api.Gauss) []api.Gauss {
	var w way
	var heights []api.Gauss
	for _, t := range ticks {
		sum := planeOf(z(0, 0))
		for k, u := range rotors {
			sum = w.plus(sum, w.times(turned(u, t), planeOf(numbers[k])))
		}
		heights = append(heights, sum.gauss())
	}
	return heights
}

// rowsTimes are rows times numbers.
func rowsTimes(rows [][]api.Gauss, numbers []api.Gauss) []api.Gauss {
	var w way
	var side []api.Gauss
	for _, row := range rows {
		sum := planeOf(z(0, 0))
		for k, a := range row {
			sum = w.plus(sum, w.times(planeOf(a), planeOf(numbers[k])))
		}
		side = append(side, sum.gauss())
	}
	return side
}

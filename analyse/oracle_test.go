package analyse_test

import (
	"math/big"
	"slices"

	"slackwater/api"
)

// plane is a complex fraction of the library's.
type plane struct {
	re, im *big.Rat
}

func planeOf(a api.Gauss) plane { return plane{rational(a.Re), rational(a.Im)} }

// rational writes the library's fraction of one in its one form.
func rational(a api.Ratio) *big.Rat {
	f := new(big.Rat).SetFrac(natural(a.Num), natural(a.Den))
	if a.Neg {
		f.Neg(f)
	}
	return f
}

func natural(words []uint32) *big.Int {
	n := new(big.Int)
	for _, w := range slices.Backward(words) {
		n.Add(n.Lsh(n, 32), big.NewInt(int64(w)))
	}
	return n
}

func none() plane { return plane{new(big.Rat), new(big.Rat)} }

func (a plane) gauss() api.Gauss { return g(fraction(a.re), fraction(a.im)) }

func (a plane) nought() bool { return a.re.Sign() == 0 && a.im.Sign() == 0 }

func (a plane) conjugate() plane { return plane{a.re, new(big.Rat).Neg(a.im)} }

// turned is a rotor's power, by the library's whole numbers: (Far + i Near) to 2t, over the square of its size to t.
func turned(x api.Rotor, t int) plane {
	far, near := big.NewInt(int64(x.Far)), big.NewInt(int64(x.Near))
	product := func(a, b *big.Int) *big.Int { return new(big.Int).Mul(a, b) }
	top, side := big.NewInt(1), big.NewInt(0)
	for range 2 * t {
		top, side = new(big.Int).Sub(product(top, far), product(side, near)), new(big.Int).Add(product(top, near), product(side, far))
	}
	norm := new(big.Int).Add(product(far, far), product(near, near))
	under := norm.Exp(norm, big.NewInt(int64(t)), nil)
	return plane{new(big.Rat).SetFrac(top, under), new(big.Rat).SetFrac(side, under)}
}

// way makes fractions one by one as the document names them, and keeps whether one had more than 2,048 words.
type way struct {
	long bool
}

func (w *way) made(f *big.Rat) *big.Rat {
	const bits = 32 * 2048
	w.long = w.long || f.Num().BitLen() > bits || f.Denom().BitLen() > bits
	return f
}

func (w *way) product(x, y *big.Rat) *big.Rat { return w.made(new(big.Rat).Mul(x, y)) }

func (w *way) sum(x, y *big.Rat) *big.Rat { return w.made(new(big.Rat).Add(x, y)) }

func (w *way) difference(x, y *big.Rat) *big.Rat { return w.made(new(big.Rat).Sub(x, y)) }

func (w *way) quotient(x, y *big.Rat) *big.Rat { return w.made(new(big.Rat).Quo(x, y)) }

func (w *way) times(a, b plane) plane {
	return plane{w.difference(w.product(a.re, b.re), w.product(a.im, b.im)), w.sum(w.product(a.re, b.im), w.product(a.im, b.re))}
}

func (w *way) plus(a, b plane) plane { return plane{w.sum(a.re, b.re), w.sum(a.im, b.im)} }

func (w *way) less(a, b plane) plane {
	return plane{w.difference(a.re, b.re), w.difference(a.im, b.im)}
}

func (w *way) norm(a plane) *big.Rat { return w.sum(w.product(a.re, a.re), w.product(a.im, a.im)) }

func (w *way) over(a, b plane) plane {
	norm := w.norm(b)
	top := w.times(a, b.conjugate())
	return plane{w.quotient(top.re, norm), w.quotient(top.im, norm)}
}

// equations are the rows of an analysis by their definition, the right sides at their ends.
func (w *way) equations(ticks []int, heights []api.Gauss, rotors []api.Rotor) [][]plane {
	powers := make([][]plane, len(rotors))
	for j, u := range rotors {
		for _, t := range ticks {
			powers[j] = append(powers[j], turned(u, t))
		}
	}
	var rows [][]plane
	for _, mine := range powers {
		var row []plane
		for _, theirs := range powers {
			sum := none()
			for i := range ticks {
				sum = w.plus(sum, w.times(mine[i].conjugate(), theirs[i]))
			}
			row = append(row, sum)
		}
		side := none()
		for i := range ticks {
			side = w.plus(side, w.times(mine[i].conjugate(), planeOf(heights[i])))
		}
		rows = append(rows, append(row, side))
	}
	return rows
}

// eliminated goes through the rows column by column, and tells false at a column without a pivot; it ends where something is too long.
func (w *way) eliminated(rows [][]plane) bool {
	for r := range rows {
		first := r
		for first < len(rows) && rows[first][r].nought() {
			first++
		}
		if first == len(rows) {
			return false
		}
		rows[r], rows[first] = rows[first], rows[r]
		for below := r + 1; below < len(rows) && !w.long; below++ {
			factor := w.over(rows[below][r], rows[r][r])
			rows[below][r] = none()
			for k := r + 1; k <= len(rows); k++ {
				rows[below][k] = w.less(rows[below][k], w.times(factor, rows[r][k]))
			}
		}
		if w.long {
			return true
		}
	}
	return true
}

// analysed is what Exact must answer of what may be.
func analysed(ticks []int, heights []api.Gauss, rotors []api.Rotor) answer {
	var w way
	rows, n := w.equations(ticks, heights, rotors), len(rotors)
	// What is too long in the equations is told ahead of what they come to.
	if w.long {
		return answer{e: api.ErrLong}
	}
	whether := w.eliminated(rows)
	switch {
	case w.long:
		return answer{e: api.ErrLong}
	case !whether:
		return answer{e: api.ErrSingular}
	}
	found, told := make([]plane, n), make([]api.Gauss, n)
	for j := n - 1; j >= 0; j-- {
		rest := rows[j][n]
		for k := j + 1; k < n; k++ {
			rest = w.less(rest, w.times(rows[j][k], found[k]))
		}
		found[j] = w.over(rest, rows[j][j])
		told[j] = found[j].gauss()
		if w.long {
			return answer{e: api.ErrLong}
		}
	}
	return answer{tides: tidesOf(rotors, told)}
}

// rested are the rests of what may be.
func (w *way) rested(ticks []int, heights []api.Gauss, tides []api.Tide) []plane {
	var rests []plane
	for i, t := range ticks {
		rest := planeOf(heights[i])
		for _, c := range tides {
			rest = w.less(rest, w.times(planeOf(c.Number), turned(c.Rotor, t)))
		}
		rests = append(rests, rest)
	}
	return rests
}

// left is what Left must answer of what may be.
func left(ticks []int, heights []api.Gauss, tides []api.Tide) answer {
	var w way
	var told []api.Gauss
	for _, a := range w.rested(ticks, heights, tides) {
		told = append(told, a.gauss())
	}
	if w.long {
		return answer{e: api.ErrLong}
	}
	return answer{list: told}
}

// misfit is what Misfit must answer.
func misfit(ticks []int, heights []api.Gauss, tides []api.Tide) answer {
	var w way
	sum := new(big.Rat)
	for _, a := range w.rested(ticks, heights, tides) {
		sum = w.sum(sum, w.norm(a))
	}
	if w.long {
		return answer{e: api.ErrLong}
	}
	return answer{sum: fraction(sum)}
}

// heightsOf are, at each tick, the sum of constituents.
func heightsOf(ticks []int, tides []api.Tide) []api.Gauss {
	var w way
	var heights []api.Gauss
	for _, t := range ticks {
		sum := none()
		for _, c := range tides {
			sum = w.plus(sum, w.times(turned(c.Rotor, t), planeOf(c.Number)))
		}
		heights = append(heights, sum.gauss())
	}
	return heights
}

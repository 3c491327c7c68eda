package solve_test

import (
	"math/big"
	"slices"

	"slackwater/api"
)

// plane is a complex fraction of the library's.
type plane struct {
	re, im *big.Rat
}

func planeOf(a api.Gauss) plane { return plane{rational(a.Re), rational(a.Im)} }

func planesOf(l []api.Gauss) []plane {
	var planes []plane
	for _, a := range l {
		planes = append(planes, planeOf(a))
	}
	return planes
}

// rational writes the library's fraction of one in its one form.
func rational(a api.Ratio) *big.Rat {
	f := new(big.Rat).SetFrac(natural(a.Num), natural(a.Den))
	if a.Neg {
		f.Neg(f)
	}
	return f
}

func natural(words []uint32) *big.Int {
	n := new(big.Int)
	for _, w := range slices.Backward(words) {
		n.Add(n.Lsh(n, 32), big.NewInt(int64(w)))
	}
	return n
}

func (a plane) gauss() api.Gauss { return g(fraction(a.re), fraction(a.im)) }

func (a plane) nought() bool { return a.re.Sign() == 0 && a.im.Sign() == 0 }

func (a plane) opposite() plane { return plane{new(big.Rat).Neg(a.re), new(big.Rat).Neg(a.im)} }

// way makes fractions one by one as the document names them, and keeps whether one had more than 2,048 words.
type way struct {
	long bool
}

func (w *way) made(f *big.Rat) *big.Rat {
	const bits = 32 * 2048
	w.long = w.long || f.Num().BitLen() > bits || f.Denom().BitLen() > bits
	return f
}

func (w *way) product(x, y *big.Rat) *big.Rat { return w.made(new(big.Rat).Mul(x, y)) }

func (w *way) sum(x, y *big.Rat) *big.Rat { return w.made(new(big.Rat).Add(x, y)) }

func (w *way) difference(x, y *big.Rat) *big.Rat { return w.made(new(big.Rat).Sub(x, y)) }

func (w *way) quotient(x, y *big.Rat) *big.Rat { return w.made(new(big.Rat).Quo(x, y)) }

func (w *way) times(a, b plane) plane {
	return plane{w.difference(w.product(a.re, b.re), w.product(a.im, b.im)), w.sum(w.product(a.re, b.im), w.product(a.im, b.re))}
}

func (w *way) plus(a, b plane) plane { return plane{w.sum(a.re, b.re), w.sum(a.im, b.im)} }

func (w *way) less(a, b plane) plane {
	return plane{w.difference(a.re, b.re), w.difference(a.im, b.im)}
}

func (w *way) over(a, b plane) plane {
	norm := w.sum(w.product(b.re, b.re), w.product(b.im, b.im))
	top := w.times(a, plane{b.re, new(big.Rat).Neg(b.im)})
	return plane{w.quotient(top.re, norm), w.quotient(top.im, norm)}
}

// grid are rows of the library's fractions, right sides at their ends.
func grid(m [][]api.Gauss, sides []api.Gauss) [][]plane {
	var rows [][]plane
	for j, row := range m {
		rows = append(rows, planesOf(row))
		if len(sides) > 0 {
			rows[j] = append(rows[j], planeOf(sides[j]))
		}
	}
	return rows
}

// eliminated goes through rows as the chapter's words say, and tells the pivots and how often rows changed places. It ends where something is too long, and at a column without a pivot, if there must be one.
func (w *way) eliminated(rows [][]plane, columns int, must bool) (pivots []plane, changes int) {
	for column := 0; column < columns && !w.long; column++ {
		r := len(pivots)
		first := r
		for first < len(rows) && rows[first][column].nought() {
			first++
		}
		switch {
		case first == len(rows) && must:
			return pivots, changes
		case first == len(rows):
			continue
		case first > r:
			rows[r], rows[first] = rows[first], rows[r]
			changes++
		}
		pivot := rows[r][column]
		for below := r + 1; below < len(rows); below++ {
			factor := w.over(rows[below][column], pivot)
			rows[below][column] = planeOf(z(0, 0))
			for k := column + 1; k < len(rows[below]); k++ {
				rows[below][k] = w.less(rows[below][k], w.times(factor, rows[r][k]))
			}
		}
		pivots = append(pivots, pivot)
	}
	return pivots, changes
}

// solved is what Solve must answer of what may be.
func solved(m [][]api.Gauss, sides []api.Gauss) answer {
	var w way
	rows, n := grid(m, sides), len(m)
	pivots, _ := w.eliminated(rows, n, true)
	switch {
	case w.long:
		return answer{e: api.ErrLong}
	case len(pivots) < n:
		return answer{e: api.ErrSingular}
	}
	found, told := make([]plane, n), make([]api.Gauss, n)
	for j := n - 1; j >= 0; j-- {
		rest := rows[j][n]
		for k := j + 1; k < n; k++ {
			rest = w.less(rest, w.times(rows[j][k], found[k]))
		}
		found[j] = w.over(rest, pivots[j])
		told[j] = found[j].gauss()
		if w.long {
			return answer{e: api.ErrLong}
		}
	}
	return answer{list: told}
}

// determined is what Det must answer.
func determined(m [][]api.Gauss) answer {
	var w way
	pivots, changes := w.eliminated(grid(m, nil), len(m), true)
	if len(pivots) < len(m) && !w.long {
		return answer{number: z(0, 0)}
	}
	det := planeOf(z(1, 0))
	for _, p := range pivots {
		det = w.times(det, p)
	}
	if changes%2 == 1 {
		det = det.opposite()
	}
	if w.long {
		return answer{e: api.ErrLong}
	}
	return answer{number: det.gauss()}
}

// ranked is what Rank must answer.
func ranked(m [][]api.Gauss) answer {
	var w way
	columns := 0
	if len(m) > 0 {
		columns = len(m[0])
	}
	pivots, _ := w.eliminated(grid(m, nil), columns, false)
	if w.long {
		return answer{e: api.ErrLong}
	}
	return answer{rank: len(pivots)}
}

// multiplied is what Times must answer.
func multiplied(m [][]api.Gauss, x []api.Gauss) answer {
	var w way
	var told []api.Gauss
	for _, row := range m {
		sum := planeOf(z(0, 0))
		for k, a := range row {
			sum = w.plus(sum, w.times(planeOf(a), planeOf(x[k])))
		}
		told = append(told, sum.gauss())
	}
	if w.long {
		return answer{e: api.ErrLong}
	}
	return answer{list: told}
}

// wanted is what the call of this name must answer of what may be.
func wanted(name string, m [][]api.Gauss, l []api.Gauss) answer {
	switch name {
	case "Solve":
		return solved(m, l)
	case "Det":
		return determined(m)
	case "Rank":
		return ranked(m)
	}
	return multiplied(m, l)
}

// permuted calls with each order of the numbers below n, and whether it comes about by an odd number of changes.
func permuted(n int, each func(order []int, odd bool)) {
	order := make([]int, n)
	for i := range order {
		order[i] = i
	}
	var from func(k int, odd bool)
	from = func(k int, odd bool) {
		if k == n {
			each(order, odd)
			return
		}
		for i := k; i < n; i++ {
			order[k], order[i] = order[i], order[k]
			from(k+1, odd != (i != k))
			order[k], order[i] = order[i], order[k]
		}
	}
	from(0, false)
}

// leibniz is a determinant without any elimination: over all orders the product of a number of each row.
func leibniz(rows [][]plane) plane {
	var w way
	det := planeOf(z(0, 0))
	permuted(len(rows), func(order []int, odd bool) {
		p := planeOf(z(1, 0))
		for j, k := range order {
			p = w.times(p, rows[j][k])
		}
		if odd {
			p = p.opposite()
		}
		det = w.plus(det, p)
	})
	return det
}

// cramer is what solves equations, by determinants alone.
func cramer(m [][]api.Gauss, sides []api.Gauss) []api.Gauss {
	var w way
	var found []api.Gauss
	det := leibniz(grid(m, nil))
	for k := range m {
		rows := grid(m, nil)
		for j, a := range sides {
			rows[j][k] = planeOf(a)
		}
		found = append(found, w.over(leibniz(rows), det).gauss())
	}
	return found
}

// choices are all lists of k rising numbers below n.
func choices(n, k int) [][]int {
	if k == 0 {
		return [][]int{nil}
	}
	var all [][]int
	for last := k - 1; last < n; last++ {
		for _, ahead := range choices(last, k-1) {
			all = append(all, append(slices.Clone(ahead), last))
		}
	}
	return all
}

// minors is how many rows and columns the greatest square among the rows has whose determinant is not 0.
func minors(m [][]api.Gauss, columns int) int {
	all := grid(m, nil)
	for size := min(len(m), columns); size > 0; size-- {
		for _, rows := range choices(len(m), size) {
			for _, places := range choices(columns, size) {
				var square [][]plane
				for _, j := range rows {
					var row []plane
					for _, k := range places {
						row = append(row, all[j][k])
					}
					square = append(square, row)
				}
				if !leibniz(square).nought() {
					return size
				}
			}
		}
	}
	return 0
}

package solve

import (
	"slices"

	"slackwater/api"
	"slackwater/gauss"
)

// equations are what elimination works on: rows that change places, each with its numbers and, where there are right sides, its own one behind them, as it is the last that each step goes to.
type equations struct {
	rows [][]api.Gauss
	// odd is whether rows changed places an odd number of times.
	odd bool
}

// equationsOf makes rows of its own of a matrix and its right sides, if it has any.
func equationsOf(m [][]api.Gauss, sides []api.Gauss) *equations {
	q := &equations{}
	for j, row := range m {
		own := slices.Clone(row)
		if len(sides) > 0 {
			own = append(own, sides[j])
		}
		q.rows = append(q.rows, own)
	}
	return q
}

// eliminate goes from column to column, each pivot in the column's own row; it ends at a column without a pivot, and tells false.
func (q *equations) eliminate() bool {
	for column := range q.rows {
		if !q.step(column, column) {
			return false
		}
	}
	return true
}

// step brings the column's pivot into the row r, and takes that row off those below; it tells false, if there is no pivot from r on.
func (q *equations) step(r, column int) bool {
	ahead := slices.IndexFunc(q.rows[r:], func(row []api.Gauss) bool { return !gauss.Zero(row[column]) })
	if ahead < 0 {
		return false
	}
	if ahead > 0 {
		q.rows[r], q.rows[r+ahead] = q.rows[r+ahead], q.rows[r]
		q.odd = !q.odd
	}
	for _, row := range q.rows[r+1:] {
		takeOff(row[column:], q.rows[r][column:])
	}
	return true
}

// takeOff takes the pivot's row, times the row's factor, off a row. Both begin at the pivot's column, where the row is left as it is: it would be 0, and isn't looked at again.
func takeOff(row, pivots []api.Gauss) {
	// Made where the row's number is 0, too, as it is refused where the pivot's Norm is too long.
	factor := made(gauss.Quo(row[0], pivots[0]))
	for k := 1; k < len(row); k++ {
		row[k] = less(row[k], factor, pivots[k])
	}
}

// backward tells what is found for each column, from the last one back, where each has its pivot in its own row.
func (q *equations) backward() []api.Gauss {
	columns := len(q.rows)
	found := make([]api.Gauss, columns)
	for j, row := range slices.Backward(q.rows) {
		rest := row[columns]
		for k := j + 1; k < columns; k++ {
			rest = less(rest, row[k], found[k])
		}
		found[j] = made(gauss.Quo(rest, row[j]))
	}
	return found
}

// product tells the product of the pivots, with the other sign, if rows changed places an odd number of times.
func (q *equations) product() api.Gauss {
	p := gauss.Int(1, 0)
	for j, row := range q.rows {
		p = made(gauss.Mul(p, row[j]))
	}
	if q.odd {
		p = made(gauss.Neg(p))
	}
	return p
}

// less makes a less the product of b and c.
func less(a, b, c api.Gauss) api.Gauss {
	return made(gauss.Sub(a, made(gauss.Mul(b, c))))
}

// refusal is what a panic carries from a number that is refused on the way to the face that was called.
type refusal struct {
	err api.Errno
}

// made hands on a number that was made on the way; one that is refused ends all.
func made(a api.Gauss, e api.Errno) api.Gauss {
	if e != api.OK {
		panic(refusal{e})
	}
	return a
}

// why tells what a panic that was caught carries.
func why(stop any) api.Errno { return stop.(refusal).err }

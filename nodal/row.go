package nodal

import (
	"math"

	"slackwater/api"
	"slackwater/turn"
)

const circle = 3600000 // units of a whole turn, in which rows count

// row says how a constituent goes with the node's number: the factor by its real part, the turn by its imaginary one.
type row struct {
	base  float64 // the factor where the real part is 0
	slope float64 // what a real part of 1 adds to the factor
	swing float64 // units of turn where the imaginary part is 1
}

// find tells a name's row; ErrMissing, if the table has none.
func find(name string) (row, api.Errno) {
	switch name {
	case "M2", "N2":
		return row{1, -0.037, -21000}, api.OK
	case "S2", "P1":
		return row{1, 0, 0}, api.OK
	case "K2":
		return row{1.024, 0.286, -177000}, api.OK
	case "K1":
		return row{1.006, 0.115, -89000}, api.OK
	case "O1", "Q1":
		return row{1.009, 0.187, 108000}, api.OK
	case "Mf":
		return row{1.043, 0.414, -237000}, api.OK
	case "Mm":
		return row{1, -0.13, 0}, api.OK
	}
	return row{}, api.ErrMissing
}

// factor holds the product in a conversion, so that it isn't joined with the sum.
func (r row) factor(z complex128) float64 {
	return float64(r.slope*real(z)) + r.base
}

func (r row) turn(z complex128) (api.Turn, api.Errno) {
	units := math.RoundToEven(float64(r.swing * imag(z)))
	return turn.Of(int64(units), circle)
}

// ahead adds the row's turn to others. Each Whole divides circle, so no sum is too long.
func (r row) ahead(sum api.Turn, z complex128) (api.Turn, api.Errno) {
	t, e := r.turn(z)
	if e != api.OK {
		return api.Turn{}, e
	}
	return turn.Add(sum, t)
}

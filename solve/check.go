package solve

import (
	"slices"

	"slackwater/api"
	"slackwater/gauss"
)

// check tells what is wrong with a matrix and the list beside it: with how long it is, then with its shape, which must be one that fits, then with the first number that may not be.
func check(m [][]api.Gauss, beside []api.Gauss, fits func(rows, columns int) bool) api.Errno {
	if len(m) > api.MaxRows || slices.ContainsFunc(m, func(row []api.Gauss) bool { return len(row) > api.MaxRows }) {
		return api.ErrLong
	}
	columns := width(m)
	if slices.ContainsFunc(m, func(row []api.Gauss) bool { return len(row) != columns }) || !fits(len(m), columns) {
		return api.ErrArg
	}
	for _, row := range m {
		if e := checkNumbers(row); e != api.OK {
			return e
		}
	}
	return checkNumbers(beside)
}

// checkNumbers tells the error of the first number that may not be.
func checkNumbers(l []api.Gauss) api.Errno {
	for _, a := range l {
		if e := gauss.Check(a); e != api.OK {
			return e
		}
	}
	return api.OK
}

// width is how many numbers the first row has; none, if there is no row.
func width(m [][]api.Gauss) int {
	if len(m) == 0 {
		return 0
	}
	return len(m[0])
}

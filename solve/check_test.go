package solve_test

import (
	"slices"
	"strconv"
	"testing"

	"slackwater/api"
)

// P22.1

// Too many rows, or too many numbers in any of them, are told ahead of all else.
func TestTooManyRowsOrNumbers(t *testing.T) {
	ragged := filled(3, 3)
	ragged[2] = line(9)
	late := filled(8, 1)
	late[7] = line(9)
	for key, m := range map[string][][]api.Gauss{
		"nine of nine":                filled(9, 9),
		"nine of one":                 filled(9, 1),
		"nine without numbers":        make([][]api.Gauss, 9),
		"nine hollow ones":            hollow(9, 9),
		"nine, the last one shorter":  append(filled(8, 9), line(2)),
		"one of nine":                 filled(1, 9),
		"eight of nine":               filled(8, 9),
		"one hollow one of nine":      hollow(1, 9),
		"two, one of nine":            {line(2), line(9)},
		"two, the first one of nine":  {line(9), nil},
		"the third of three":          ragged,
		"the eighth of eight":         late,
		"ten":                         filled(10, 10),
		"one of ten":                  filled(1, 10),
		"a thousand":                  filled(1000, 3),
		"many without numbers":        make([][]api.Gauss, 1<<16),
		"one of many":                 hollow(1, 1<<16),
		"nine, rows and right no fit": hollow(9, 4),
	} {
		for name := range calls() {
			for _, k := range []int{0, 1, 8, 9, len(m)} {
				refused(t, name, key+", beside it "+strconv.Itoa(k), m, line(k), api.ErrLong)
				refused(t, name, key+", beside it hollow "+strconv.Itoa(k), m, make([]api.Gauss, k), api.ErrLong)
			}
		}
	}
}

// fits tells whether the call takes so many rows and columns, and so many numbers beside them.
func fits(name string, rows, columns, beside int) bool {
	if rows == 0 {
		columns = 0
	}
	switch name {
	case "Solve":
		return rows == columns && rows == beside
	case "Det":
		return rows == columns
	case "Times":
		return columns == beside
	}
	return true
}

// Each shape up to 8 rows and columns and 10 numbers beside them, of numbers that may not be: they are looked at only where the shape fits.
func TestShapes(t *testing.T) {
	for name := range calls() {
		for rows := range 9 {
			for columns := range 9 {
				for beside := range 11 {
					want := api.ErrArg
					if fits(name, rows, columns, beside) {
						want = api.ErrNormal
					}
					// The list is looked at by two of the calls alone.
					numbers := rows * columns
					if name == "Solve" || name == "Times" {
						numbers += beside
					}
					m := hollow(rows, columns)
					if want == api.ErrNormal && numbers == 0 {
						if got := calls()[name](m, nil); got.e != api.OK {
							t.Errorf("%s of %d without numbers: %v", name, rows, got.e)
						}
						continue
					}
					refused(t, name, strconv.Itoa(rows)+" rows of "+strconv.Itoa(columns)+", beside them "+strconv.Itoa(beside), m, make([]api.Gauss, beside), want)
				}
			}
		}
	}
}

// The same with numbers that may be: what fits isn't refused with ErrArg.
func TestShapesOfNumbers(t *testing.T) {
	for name := range calls() {
		for rows := range 9 {
			for columns := range 9 {
				for beside := range 10 {
					got := calls()[name](filled(rows, columns), line(beside))
					if fits(name, rows, columns, beside) == (got.e == api.ErrArg) {
						t.Errorf("%s, %d rows of %d, beside them %d: %v", name, rows, columns, beside, got.e)
					}
				}
			}
		}
	}
}

func TestManyBeside(t *testing.T) {
	for _, k := range []int{3, 9, 1 << 16} {
		for _, name := range []string{"Solve", "Times"} {
			refused(t, name, "two of two, many beside", filled(2, 2), make([]api.Gauss, k), api.ErrArg)
			refused(t, name, "no rows, many beside", nil, make([]api.Gauss, k), api.ErrArg)
			refused(t, name, "no rows, many that may be", [][]api.Gauss{}, line(k), api.ErrArg)
		}
	}
}

// One row that is longer or shorter than the others, at each place.
func TestRowsOfUnlikeLengths(t *testing.T) {
	for rows := 2; rows <= 8; rows++ {
		for place := range rows {
			for length := range 9 {
				if length == rows {
					continue
				}
				m, empty := filled(rows, rows), hollow(rows, rows)
				m[place], empty[place] = line(length), make([]api.Gauss, length)
				for name := range calls() {
					key := strconv.Itoa(rows) + " rows, of " + strconv.Itoa(length) + " at " + strconv.Itoa(place)
					for _, beside := range []int{0, rows, length} {
						refused(t, name, key, m, line(beside), api.ErrArg)
						refused(t, name, key+", hollow", empty, make([]api.Gauss, beside), api.ErrArg)
					}
				}
			}
		}
	}
	for name := range calls() {
		refused(t, name, "both below four", [][]api.Gauss{line(3), line(2), line(3), line(4)}, line(4), api.ErrArg)
		refused(t, name, "none and one", [][]api.Gauss{nil, line(1)}, line(1), api.ErrArg)
		refused(t, name, "one and none", [][]api.Gauss{line(1), {}}, line(1), api.ErrArg)
	}
}

// other is one that may not be, and has the other error.
func other(e api.Errno) api.Gauss {
	if e == api.ErrLong {
		return api.Gauss{}
	}
	return re(r(false, full(2049, 1), ints(1)))
}

// The first number that may not be is told, row by row, then of the list: those behind it have the other error.
func TestNumbersThatMayNotBe(t *testing.T) {
	for key, w := range wrongNumbers() {
		for size := 1; size <= 3; size++ {
			for place := range size*size + size {
				flat := line(size*size + size)
				flat[place] = w.a
				alone := slices.Clone(flat)
				for k := place + 1; k < len(flat); k++ {
					flat[k] = other(w.want)
				}
				for name := range calls() {
					if place >= size*size && (name == "Det" || name == "Rank") {
						continue
					}
					what := key + " at " + strconv.Itoa(place) + " of " + strconv.Itoa(size)
					refused(t, name, what, cut(alone, size), alone[size*size:], w.want)
					refused(t, name, what+", others behind", cut(flat, size), flat[size*size:], w.want)
				}
			}
		}
	}
}

// cut makes a square of the first numbers.
func cut(flat []api.Gauss, size int) [][]api.Gauss {
	var m [][]api.Gauss
	for j := range size {
		m = append(m, flat[j*size:(j+1)*size])
	}
	return m
}

// A number that may not be is told ahead of what is too long on the way, and of a column without a pivot.
func TestNumbersAheadOfTheWay(t *testing.T) {
	long, rough := re(wide(65535)), re(r(false, ints(2), ints(4)))
	for name := range calls() {
		for key, m := range map[string][][]api.Gauss{
			"too long on the way": {{long, long}, {long, rough}},
			"no pivot":            {{z(0, 0), z(0, 0)}, {z(0, 0), rough}},
		} {
			refused(t, name, key, m, []api.Gauss{long, long}, api.ErrNormal)
		}
	}
	for _, name := range []string{"Solve", "Times"} {
		refused(t, name, "too long on the way, beside", diagonal(long, long), []api.Gauss{long, rough}, api.ErrNormal)
		refused(t, name, "no pivot, beside", hollowed(2), []api.Gauss{long, rough}, api.ErrNormal)
	}
}

// hollowed are rows of noughts.
func hollowed(size int) [][]api.Gauss {
	return diagonal(slices.Repeat([]api.Gauss{z(0, 0)}, size)...)
}

// What is beside is nothing to Det and Rank; a row that is shorter than there are rows, or longer, is nothing to Rank and Times.
func TestShapesThatMayBe(t *testing.T) {
	for _, c := range []struct {
		m    string
		rank int
	}{
		{"1, 2, 3", 1}, {"1; 2; 3", 1}, {"0, 0; 0, 1; 0, 2", 1}, {"1, 2, 3; 2, 4, 7", 2}, {"1, 0; 0, 1; 5, 7", 2}, {"0, 0, 0", 0},
		{"1, 2, 3, 4, 5, 6, 7, 8", 1}, {"1; 0; 0; 0; 0; 0; 0; 0", 1},
	} {
		if k := mustRank(t, matrix(t, c.m)); k != c.rank {
			t.Errorf("Rank of %s: %d", c.m, k)
		}
	}
	for rows := range 9 {
		if k := mustRank(t, hollow(rows, 0)); k != 0 {
			t.Errorf("Rank of %d rows without numbers: %d", rows, k)
		}
		want := slices.Repeat([]api.Gauss{z(0, 0)}, rows)
		if x := mustTimes(t, hollow(rows, 0), nil); !same(x, want) {
			t.Errorf("Times of %d rows without numbers: %d numbers", rows, len(x))
		}
	}
}

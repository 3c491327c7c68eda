package normal_test

import (
	"slices"
	"testing"

	"slackwater/api"
	"slackwater/normal"
)

// P21.5

// The number at (j, k) is the conjugate of that at (k, j); at (j, j) it is how many ticks there are.
func TestRowsAreTheirOwnConjugates(t *testing.T) {
	d := dice(217)
	for range 100 {
		ticks, rotors := d.ticks(12, 200), d.rotors(8)
		rows := mustRows(t)(normal.Of(ticks, rotors))
		if len(rows) != len(rotors) {
			t.Fatalf("%d rows of %d rotors", len(rows), len(rotors))
		}
		for j, row := range rows {
			if len(row) != len(rotors) || !sameGauss(row[j], z(int64(len(ticks)), 0)) {
				t.Fatalf("the row %d of %v and %v", j, ticks, rotors)
			}
			for k, a := range row {
				b := rows[k][j]
				if !sameGauss(a, g(b.Re, opposite(b.Im))) {
					t.Fatalf("at %d, %d of %v and %v", j, k, ticks, rotors)
				}
			}
		}
	}
	for _, n := range []int{0, 1, 255, 256} {
		rows := mustRows(t)(normal.Of(span(1025-n, 1025), []api.Rotor{o(2, 1)}))
		if len(rows) != 1 || !slices.EqualFunc(rows[0], []api.Gauss{z(int64(n), 0)}, sameGauss) {
			t.Errorf("one rotor, %d ticks", n)
		}
	}
}

// Where the heights are the sum of the rotors' powers times some numbers, the rows times these are the right side, and nothing is left.
func TestHeightsThatAreSums(t *testing.T) {
	d := dice(218)
	for range 60 {
		ticks, rotors := d.ticks(10, 40), d.rotors(8)
		numbers := d.numbers(len(rotors))
		heights := heightsOf(ticks, rotors, numbers)
		rows, side := mustRows(t)(normal.Of(ticks, rotors)), mustSide(t)(normal.Right(ticks, heights, rotors))
		if !same(rowsTimes(rows, numbers), side) {
			t.Errorf("rows of %v and %v: not the right side", ticks, rotors)
		}
		if left := mustLeft(t)(normal.Left(ticks, heights, rotors, numbers)); !sameRatio(left, q(0, 1)) {
			t.Errorf("Left of %v and %v: not 0", ticks, rotors)
		}
	}
}

// Left is 0 or above, and above where a height is not just the sum.
func TestLeftIsNotBelowNought(t *testing.T) {
	d := dice(219)
	for range 100 {
		ticks, rotors := d.ticks(10, 40), d.rotors(4)
		numbers := d.numbers(len(rotors))
		if left := mustLeft(t)(normal.Left(ticks, d.numbers(len(ticks)), rotors, numbers)); left.Neg {
			t.Errorf("Left of %v and %v is below 0", ticks, rotors)
		}
		if len(ticks) == 0 {
			continue
		}
		heights := heightsOf(ticks, rotors, numbers)
		var w way
		k := d.below(len(ticks))
		heights[k] = w.plus(planeOf(heights[k]), planeOf(g(q(0, 1), q(-1, 7)))).gauss()
		if left := mustLeft(t)(normal.Left(ticks, heights, rotors, numbers)); !sameRatio(left, q(1, 49)) {
			t.Errorf("Left of %v and %v, one height off by 1/7: not 1/49", ticks, rotors)
		}
	}
}

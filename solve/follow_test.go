package solve_test

import (
	"slices"
	"testing"

	"slackwater/api"
)

// P22.5

// Times of what Solve tells is the right side; and where some numbers' Times is the right side, Solve tells just these.
func TestTimesOfWhatSolveTells(t *testing.T) {
	d := dice(228)
	count := 0
	for i := range 300 {
		k := d.below(7)
		m, l := d.smallRows(k, k), d.smalls(k)
		if i%10 == 0 {
			m = nil
			for range k {
				m = append(m, d.numbers(k))
			}
		}
		if got := calls()["Solve"](m, l); got.e != api.OK {
			refused(t, "Solve", text(m), m, l, api.ErrSingular)
			continue
		}
		count++
		if side := mustTimes(t, m, mustSolve(t, m, l)); !same(side, l) {
			t.Errorf("Times of what Solve tells of %s: %s", text(m), text([][]api.Gauss{side}))
		}
		if x := mustSolve(t, m, mustTimes(t, m, l)); !same(x, l) {
			t.Errorf("Solve of what Times tells of %s: %s", text(m), text([][]api.Gauss{x}))
		}
	}
	if count < 150 {
		t.Errorf("%d solved", count)
	}
}

// Solve is ErrSingular just where Det is 0, just where Rank is below the number of rows, whatever the right side.
func TestSingular(t *testing.T) {
	d := dice(229)
	count := map[bool]int{}
	for range 400 {
		k := d.below(6)
		m := d.dependent(d.dependent(d.smallRows(k, k)))
		flat := sameGauss(mustDet(t, m), z(0, 0))
		if (mustRank(t, m) < k) != flat {
			t.Errorf("Det and Rank of %s", text(m))
		}
		noughts := slices.Repeat([]api.Gauss{z(0, 0)}, k)
		for _, l := range [][]api.Gauss{d.smalls(k), noughts, mustTimes(t, m, d.smalls(k))} {
			if got := calls()["Solve"](m, l); (got.e == api.ErrSingular) != flat || got.e == api.ErrLong {
				t.Errorf("Solve of %s: %v", text(m), got.e)
			}
		}
		count[flat]++
	}
	if count[true] < 100 || count[false] < 100 {
		t.Errorf("Det is 0, and not: %v", count)
	}
}

// Det with any two rows changed about is the negated one.
func TestDetWithTwoRowsChanged(t *testing.T) {
	d := dice(230)
	for range 100 {
		k := 2 + d.below(4)
		m := d.smallRows(k, k)
		want := planeOf(mustDet(t, m)).opposite().gauss()
		for a := range m {
			for b := range a {
				changed := slices.Clone(m)
				changed[a], changed[b] = m[b], m[a]
				if got := mustDet(t, changed); !sameGauss(got, want) {
					t.Errorf("Det of %s with the rows %d and %d changed", text(m), a, b)
				}
			}
		}
	}
}

// Rank with the rows in any order is the same; what Solve tells, too, where the right sides go along.
func TestRowsInAnotherOrder(t *testing.T) {
	d := dice(231)
	for range 40 {
		rows, columns := d.below(5), d.below(5)
		if d.below(2) == 0 {
			columns = rows
		}
		m, l := d.dependent(d.smallRows(rows, columns)), d.smalls(rows)
		rank, found := mustRank(t, m), calls()["Solve"](m, l)
		permuted(rows, func(order []int, odd bool) {
			var changed [][]api.Gauss
			var sides []api.Gauss
			for _, j := range order {
				changed, sides = append(changed, m[j]), append(sides, l[j])
			}
			if k := mustRank(t, changed); k != rank {
				t.Errorf("Rank of %s in the order %v: %d, not %d", text(m), order, k, rank)
			}
			if got := calls()["Solve"](changed, sides); !got.is(found) {
				t.Errorf("Solve of %s in the order %v", text(m), order)
			}
		})
	}
}

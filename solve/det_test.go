package solve_test

import (
	"slices"
	"strconv"
	"testing"

	"slackwater/api"
)

// P22.3

func TestDet(t *testing.T) {
	for _, c := range []struct{ m, want string }{
		{"0, 1; 1, 0", "-1"},
		{"", "1"},
		{"5", "5"},
		{"0", "0"},
		{"-2/3 1/2", "-2/3 1/2"},
		{"1, 2; 3, 4", "-2"},
		{"1, 2; 2, 4", "0"},
		{"0 1, 1; 1, 0 1", "-2"},
		{"1/2, 1/3; 1/4, 1/5", "1/60"},
		{"2, 0, 1; 1, 3, 2; 1, 1, 1", "0"},
		{"2, 0, 0; 7, 3, 0; 8, 9, 5", "30"},
		{"0, 2, 0; 0, 0, 3; 5, 0, 0", "30"},
		{"0, 0, 2; 0, 3, 0; 5, 0, 0", "-30"},
		{"0, 0; 0, 0", "0"},
		{"0, 7; 0, 5", "0"},
		{"3, 0; 5, 0", "0"},
		{"1, 1, 1; 1, 1, 2; 1, 2, 1", "-1"},
	} {
		if d := mustDet(t, matrix(t, c.m)); !sameGauss(d, list(t, c.want)[0]) {
			t.Errorf("Det of %s: %s", c.m, text([][]api.Gauss{{d}}))
		}
	}
	if d := mustDet(t, [][]api.Gauss{}); !sameGauss(d, z(1, 0)) {
		t.Error("Det of none: not 1")
	}
}

// Rows in each order of up to five: the sign goes with the changes of places, not with how far apart these are.
func TestDetOfOrders(t *testing.T) {
	for n := range 6 {
		permuted(n, func(order []int, odd bool) {
			m := hollowed(n)
			for j, k := range order {
				m[j][k] = z(1, 0)
			}
			want := z(1, 0)
			if odd {
				want = z(-1, 0)
			}
			if d := mustDet(t, m); !sameGauss(d, want) {
				t.Errorf("Det of the order %v", order)
			}
			if k := mustRank(t, m); k != n {
				t.Errorf("Rank of the order %v: %d", order, k)
			}
		})
	}
}

func TestDetThrown(t *testing.T) {
	d := dice(223)
	count := map[bool]int{}
	for range 600 {
		k := d.below(6)
		m := d.dependent(d.smallRows(k, k))
		as(t, "thrown", m, nil, "Det")
		det := leibniz(grid(m, nil))
		if !sameGauss(mustDet(t, m), det.gauss()) {
			t.Errorf("Det of %s", text(m))
		}
		count[det.nought()]++
	}
	if count[true] < 100 || count[false] < 100 {
		t.Errorf("0, and not: %v", count)
	}
	for k := range 9 {
		var m [][]api.Gauss
		for range k {
			m = append(m, d.numbers(k))
		}
		as(t, "some words", m, nil, "Det", "Rank")
		slices.Reverse(m)
		as(t, "some words, "+strconv.Itoa(k)+" rows, reversed", m, nil, "Det", "Rank")
	}
}

func TestRank(t *testing.T) {
	for _, c := range []struct {
		m    string
		want int
	}{
		{"1, 2; 2, 4", 1}, {"0, 0 1, 2", 1}, {"", 0}, {"0", 0}, {"0 1", 1}, {"0, 0, 0; 0, 0, 0", 0},
		{"0, 0, 1; 0, 3, 0; 0, 0, 0", 2}, {"0, 1; 1, 0", 2}, {"1, 2, 3; 4, 5, 6; 7, 8, 9", 2}, {"1, 0 1; 0 1, -1", 1},
		{"0, 0, 0, 1; 0, 0, 0, 2", 1}, {"0, 0, 1, 1; 0, 0, 2, 3", 2}, {"1, 1, 1, 1; 1, 1, 1, 2; 1, 1, 2, 2", 3},
		{"0, 1, 0, 0; 0, 0, 0, 1; 0, 0, 0, 0", 2}, {"1, 2; 3, 4; 5, 6; 7, 8", 2}, {"0, 1; 0, 2; 0, 3", 1}, {"1, 1; 2, 2; 3, 4", 2},
		{"0, 0; 0, 0; 1, 0", 1}, {"1, 2, 3, 4; 1, 2, 3, 4; 0, 0, 1, 1; 0, 0, 1, 2", 3},
	} {
		if k := mustRank(t, matrix(t, c.m)); k != c.want {
			t.Errorf("Rank of %s: %d, not %d", c.m, k, c.want)
		}
	}
}

func TestRankThrown(t *testing.T) {
	d := dice(224)
	count := map[int]int{}
	for range 500 {
		rows, columns := d.below(9), d.below(9)
		m := d.dependent(d.dependent(d.smallRows(rows, columns)))
		as(t, "thrown", m, nil, "Rank")
	}
	for range 200 {
		rows, columns := d.below(5), d.below(5)
		m := d.dependent(d.dependent(d.smallRows(rows, columns)))
		k, want := mustRank(t, m), minors(m, columns)
		if k != want {
			t.Errorf("Rank of %s: %d, not %d", text(m), k, want)
		}
		count[want]++
	}
	for k := range 4 {
		if count[k] < 8 {
			t.Errorf("ranks: %v", count)
		}
	}
}

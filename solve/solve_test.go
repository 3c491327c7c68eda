package solve_test

import (
	"testing"

	"slackwater/api"
	"slackwater/solve"
)

// P22.2

func TestSolve(t *testing.T) {
	for _, c := range []struct{ m, r, want string }{
		{"1, 1; 1, -1", "3, 1", "2, 1"},
		{"0, 1; 1, 0", "5, 7", "7, 5"},
		{"2", "3", "3/2"},
		{"0 1", "1", "0 -1"},
		{"3/5 4/5", "1", "3/5 -4/5"},
		{"1, 2; 3, 4", "0, 0", "0, 0"},
		{"1, 0 1; 0 1, 1", "1, 0", "1/2, 0 -1/2"},
		{"1, 2, 3; 0, 4, 5; 0, 0, 6", "14, 23, 18", "1, 2, 3"},
		{"0, 0, 2; 0, 3, 0; 5, 0, 0", "2, 3, 5", "1, 1, 1"},
		{"0, 0, 1; 1, 0, 0; 0, 1, 0", "7, 8, 9", "8, 9, 7"},
		{"1, 1, 0; 1, 1, 1; 0, 1, 1", "3, 6, 5", "1, 2, 3"},
		{"0, 1, 1, 0; 0, 0, 1, 1; 1, 0, 0, 1; 0, 1, 0, 1", "1, 2, 3, 4", "1/2, 3/2, -1/2, 5/2"},
		{"", "", ""},
	} {
		if x := mustSolve(t, matrix(t, c.m), list(t, c.r)); !same(x, list(t, c.want)) {
			t.Errorf("Solve of %s and %s: %s", c.m, c.r, text([][]api.Gauss{x}))
		}
	}
}

func TestSolveWithoutRows(t *testing.T) {
	for _, m := range [][][]api.Gauss{nil, {}} {
		for _, r := range [][]api.Gauss{nil, {}} {
			if x, e := solve.Solve(m, r); len(x) > 0 || e != api.OK {
				t.Errorf("Solve without rows: %d numbers, %v", len(x), e)
			}
		}
	}
}

func TestSolveSingular(t *testing.T) {
	for _, c := range []struct{ m, r string }{
		{"1, 2; 2, 4", "1, 2"}, {"1, 2; 2, 4", "1, 3"}, {"1, 2; 2, 4", "0, 0"},
		{"0", "0"}, {"0", "1"}, {"0, 0; 0, 0", "0, 0"}, {"0, 1; 0, 1", "1, 1"}, {"1, 0; 1, 0", "1, 1"}, {"0, 0; 1, 1", "0, 1"},
		{"1, 0 1; 0 1, -1", "1, 1"}, {"1, 2, 3; 4, 5, 6; 7, 8, 9", "1, 2, 3"}, {"1, 2, 3; 2, 4, 6; 1, 1, 1", "1, 2, 1"},
		{"1, 0, 0; 0, 0, 1; 0, 0, 1", "1, 1, 1"}, {"0, 1, 2; 0, 3, 4; 0, 5, 7", "1, 1, 1"}, {"1, 2, 0; 3, 4, 0; 5, 7, 0", "1, 1, 1"},
	} {
		refused(t, "Solve", c.m+" and "+c.r, matrix(t, c.m), list(t, c.r), api.ErrSingular)
	}
}

// as holds what each of the calls answers against what it must, and tells what Solve answered; long numbers stay untold.
func as(t *testing.T, what string, m [][]api.Gauss, l []api.Gauss, names ...string) map[string]api.Errno {
	t.Helper()
	told := map[string]api.Errno{}
	for _, name := range names {
		got, want := calls()[name](m, l), wanted(name, m, l)
		if !got.is(want) {
			t.Errorf("%s, %s: %v, rank %d, not %v, rank %d, or another number: %s", name, what, got.e, got.rank, want.e, want.rank, text(m))
		}
		told[name] = got.e
	}
	return told
}

func TestSolveThrown(t *testing.T) {
	d := dice(221)
	count := map[api.Errno]int{}
	for range 600 {
		k := d.below(6)
		m := d.dependent(d.smallRows(k, k))
		count[as(t, "thrown", m, d.smalls(k), "Solve")["Solve"]]++
	}
	if count[api.OK] < 100 || count[api.ErrSingular] < 100 {
		t.Errorf("solved, and singular: %v", count)
	}
	for k := range 9 {
		var m [][]api.Gauss
		for range k {
			m = append(m, d.numbers(k))
		}
		as(t, "some words", m, d.numbers(k), "Solve")
	}
}

// By determinants alone, that is without elimination.
func TestSolveByDeterminants(t *testing.T) {
	d := dice(222)
	count := 0
	for range 200 {
		k := 1 + d.below(4)
		m, r := d.dependent(d.smallRows(k, k)), d.smalls(k)
		if leibniz(grid(m, nil)).nought() {
			refused(t, "Solve", text(m), m, r, api.ErrSingular)
			continue
		}
		count++
		if x := mustSolve(t, m, r); !same(x, cramer(m, r)) {
			t.Errorf("Solve of %s: %s", text(m), text([][]api.Gauss{x}))
		}
	}
	if count < 50 {
		t.Errorf("%d solved", count)
	}
}

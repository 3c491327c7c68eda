package doodson_test

import (
	"slices"
	"strings"
	"testing"

	"slackwater/api"
	"slackwater/doodson"
)

// P11.4, P11.6: the numbers of a name, and the name of the numbers.
func TestKnown(t *testing.T) {
	for _, c := range knownOnes() {
		if n, e := doodson.Known(c.name); n != c.numbers || e != api.OK {
			t.Errorf("Known(%q): %v, %v; not %v", c.name, n, e, c.numbers)
		}
		if s, ok := doodson.Name(c.numbers); s != c.name || !ok {
			t.Errorf("Name(%v): %q, %v; not %q", c.numbers, s, ok, c.name)
		}
	}
}

// P11.4
func TestUnknown(t *testing.T) {
	for _, s := range []string{"", " ", "m2", "M", "2", "M2 ", " M2", "M22", "M2\x00", "k1", "n2x", "N2X", "N2xx", "2N2", "MF", "MM", "mf", "SA", "SSA", "ssa", "SSa", "sa", "MS", "Ms4", "M6", "S4", "T", "T2", "K1 K2", "K1,K2", "755.555", "\xff", "М2", "M２", strings.Repeat("M2", 40000)} {
		if n, e := doodson.Known(s); n != (api.Doodson{}) || e != api.ErrMissing {
			t.Errorf("Known(%.60q): %v, %v", s, n, e)
		}
	}
}

// P11.4: of all that may be just the table's have a name; of others none.
func TestName(t *testing.T) {
	for n := range everyOne {
		if n[4] != 0 || n[5] < -1 || n[5] > 1 {
			continue
		}
		var want string
		for _, c := range knownOnes() {
			if c.numbers == n {
				want = c.name
			}
		}
		if s, ok := doodson.Name(n); s != want || ok != (want != "") {
			t.Fatalf("Name(%v): %q, %v; not %q", n, s, ok, want)
		}
	}
	for _, n := range append(wrongOnes(), api.Doodson{}, api.Doodson{2, 2, -3, 0, 0, 1}, api.Doodson{2, 0, 0, 0, 1, 0}, api.Doodson{-2}, api.Doodson{5}, api.Doodson{0, 0, 0, 0, 0, -128}) {
		if s, ok := doodson.Name(n); s != "" || ok {
			t.Errorf("Name(%v): %q, %v", n, s, ok)
		}
	}
}

// P11.4: all names, rising, and once more.
func TestNames(t *testing.T) {
	want := []string{"K1", "K2", "L2", "M2", "M4", "MS4", "Mf", "Mm", "N2", "N2x", "O1", "P1", "Q1", "S2", "Sa", "Ssa"}
	names := doodson.Names()
	for range 3 {
		if l := slices.Collect(names); !slices.Equal(l, want) {
			t.Errorf("Names: %v", l)
		}
	}
}

// P11.4, rule 10: it may be stopped, gone over again, and gone over within itself.
func TestNamesStopped(t *testing.T) {
	names := doodson.Names()
	for i, c := range knownOnes() {
		count := 0
		for s := range names {
			count++
			if s == c.name {
				break
			}
		}
		if count != i+1 {
			t.Errorf("%d names up to %s", count, c.name)
		}
	}
	pairs := 0
	for s := range names {
		for r := range names {
			if r > s {
				break
			}
			pairs++
		}
	}
	if pairs != 16*17/2 {
		t.Errorf("%d pairs", pairs)
	}
}

package nodal_test

import (
	"math"
	"slices"
	"testing"

	"slackwater/api"
	"slackwater/nodal"
	"slackwater/turn"
)

// products are names of constituents of which one is the product.
func products() [][]string {
	return [][]string{
		nil, {}, {"M2"}, {"S2"}, {"S2", "P1"}, {"K1", "O1"}, {"O1", "K1"}, {"M2", "M2"}, {"M2", "S2"}, {"M2", "N2", "K2"}, {"K2", "N2", "M2"}, {"Mf", "Mm", "Q1", "P1"},
		{"K1", "K2", "M2", "Mf", "Mm", "N2", "O1", "P1"}, {"O1", "N2", "Mm", "Mf", "M2", "K2", "K1", "Q1"}, {"Mf", "Mf", "Mf", "Mf", "Mf", "Mf", "Mf", "Mf"}, {"K2", "Mf", "K2", "Mf", "K2", "Mf", "K2", "Mf"}, {"O1", "Q1", "O1", "Q1", "O1", "Q1", "O1", "Q1"},
	}
}

// P12.3, P12.5: factors multiplied and turns added in order, at ticks all over.
func TestTimes(t *testing.T) {
	unlike := 0
	for _, names := range products() {
		for _, tick := range append(someTicks()[:40], 50000, 117455, 400000, 700001) {
			product, sum := 1.0, api.Turn{Part: 0, Whole: 1}
			for _, name := range names {
				product = times(product, factor(t, name, tick))
				var e api.Errno
				if sum, e = turn.Add(sum, ahead(t, name, tick)); e != api.OK {
					t.Fatal(e)
				}
			}
			if f, a, fault := nodal.Times(names, tick); !same(f, product) || a != sum || fault != (api.Fault{}) {
				t.Fatalf("Times(%v, %d): %v, %v, %v; not %v, %v", names, tick, f, a, fault, product, sum)
			}
			turned := 1.0
			for _, name := range slices.Backward(names) {
				turned = times(turned, factor(t, name, tick))
			}
			if !same(turned, product) {
				unlike++
			}
		}
	}
	if unlike < 10 {
		t.Errorf("%d products alone tell their order", unlike)
	}
}

// P12.3: the turn of all units added as whole numbers is the same.
func TestTimesByUnits(t *testing.T) {
	table := map[string]line{}
	for _, l := range lines() {
		table[l.name] = l
	}
	for _, names := range products() {
		for _, tick := range []int{0, 777, 50000, 117455, 163000, top} {
			var units int64
			for _, name := range names {
				units += table[name].units(number(t, tick))
			}
			if _, a, fault := nodal.Times(names, tick); a != round(units) || fault != (api.Fault{}) {
				t.Errorf("Times(%v, %d): %v, %v; not %v", names, tick, a, fault, round(units))
			}
		}
	}
}

// P12.5: of one name its own, of none 1 and no turn.
func TestTimesOfFew(t *testing.T) {
	for _, tick := range someTicks() {
		for _, name := range nodal.Names() {
			if f, a, fault := nodal.Times([]string{name}, tick); !same(f, factor(t, name, tick)) || a != ahead(t, name, tick) || fault != (api.Fault{}) {
				t.Fatalf("Times(%s, %d): %v, %v, %v", name, tick, f, a, fault)
			}
		}
		if f, a, fault := nodal.Times(nil, tick); f != 1 || a != (api.Turn{Part: 0, Whole: 1}) || fault != (api.Fault{}) {
			t.Fatalf("Times(none, %d): %v, %v, %v", tick, f, a, fault)
		}
	}
}

// P12.3, rules 1 and 2: too many names ahead of no tick, that ahead of no name, of these the first.
func TestTimesRefused(t *testing.T) {
	check := func(names []string, tick int, want api.Errno, place int) {
		t.Helper()
		if f, a, fault := nodal.Times(names, tick); !same(f, 0) || a != (api.Turn{}) || fault != (api.Fault{Err: want, At: place}) {
			t.Errorf("Times of %d names, %d: %v, %v, %v", len(names), tick, f, a, fault)
		}
	}
	eight := []string{"M2", "S2", "N2", "K2", "K1", "O1", "P1", "Q1"}
	for _, tick := range append(noTicks(), 0, 5, top) {
		check(append(slices.Clone(eight), "Mf"), tick, api.ErrLong, -1)
		check(make([]string, 9), tick, api.ErrLong, -1)
		check(make([]string, 70000), tick, api.ErrLong, -1)
	}
	for _, tick := range noTicks() {
		check(nil, tick, api.ErrArg, -1)
		check(eight, tick, api.ErrArg, -1)
		check([]string{"x"}, tick, api.ErrArg, -1)
		check([]string{"M2", "x"}, tick, api.ErrArg, -1)
	}
	check([]string{"M2", "x"}, 1, api.ErrMissing, 1)
	check(make([]string, 8), 0, api.ErrMissing, 0)
	for _, name := range noNames() {
		for i := range eight {
			l := slices.Clone(eight)
			l[i] = name
			check(l, 777, api.ErrMissing, i)
			for k := i; k < len(l); k++ {
				l[k] = name
			}
			check(l, top, api.ErrMissing, i)
		}
	}
}

// Rule 4: names that are handed in stay as they were, their spare room is not read.
func TestTimesLeavesNames(t *testing.T) {
	room := []string{"M2", "K1", "x", "y", "K2", "K2", "K2", "K2", "K2", "K2"}
	want := slices.Clone(room)
	f, a, fault := nodal.Times(room[:2], 777)
	g, b, _ := nodal.Times([]string{"M2", "K1"}, 777)
	if !same(f, g) || a != b || fault != (api.Fault{}) || !slices.Equal(room, want) {
		t.Errorf("%v, %v, %v; %v", f, a, fault, room)
	}
}

// P12.4: some known ones, to the bit.
func TestMean(t *testing.T) {
	for _, c := range []struct {
		name string
		a, b int
		want uint64
	}{
		{"S2", 0, 3, 0x3FF0000000000000}, {"M2", 10, 12, 0x3FF01C9207C63236}, {"K1", 0, 3, 0x3FEF7FE3F7DCABC4}, {"K2", 777, 801, 0x3FEEC632BBAC2433}, {"O1", 0, 4096, 0x3FEEB45A3D844132}, {"Mf", 0, 4096, 0x3FEDDECB2DACB62C}, {"Mm", 50000, 52047, 0x3FF1BC52136136DA}, {"Mf", top - 4095, top + 1, 0x3FECD4268E8E0CB9},
	} {
		if m, e := nodal.Mean(c.name, c.a, c.b); math.Float64bits(m) != c.want || e != api.OK {
			t.Errorf("Mean(%s, %d, %d): %v, %v", c.name, c.a, c.b, m, e)
		}
	}
}

// P12.4, rule 7: added up rising, of one tick to as many as may be, the last ones among them.
func TestMeanStepByStep(t *testing.T) {
	unlike := 0
	for _, c := range [][2]int{{0, 1}, {0, 2}, {0, 3}, {10, 12}, {5, 12}, {777, 801}, {0, 4096}, {50000, 52047}, {117000, 121096}, {top, top + 1}, {top - 1, top + 1}, {top - 1, top}, {top + 1 - 4096, top + 1}} {
		for _, name := range nodal.Names() {
			sum := 0.0
			for tick := c[0]; tick < c[1]; tick++ {
				sum = plus(sum, factor(t, name, tick))
			}
			want := over(sum, float64(c[1]-c[0]))
			if m, e := nodal.Mean(name, c[0], c[1]); !same(m, want) || e != api.OK {
				t.Errorf("Mean(%s, %d, %d): %v, %v; not %v", name, c[0], c[1], m, e, want)
			}
			falling := 0.0
			for tick := c[1] - 1; tick >= c[0]; tick-- {
				falling = plus(falling, factor(t, name, tick))
			}
			if !same(falling, sum) {
				unlike++
			}
		}
	}
	if unlike < 10 {
		t.Errorf("%d sums alone tell their order", unlike)
	}
}

// P12.4, P12.5: of one tick its factor, of S2 and P1 1.
func TestMeanOfFew(t *testing.T) {
	for _, tick := range someTicks() {
		for _, name := range nodal.Names() {
			if m, e := nodal.Mean(name, tick, tick+1); !same(m, factor(t, name, tick)) || e != api.OK {
				t.Fatalf("Mean(%s, %d): %v, %v", name, tick, m, e)
			}
		}
	}
	for _, c := range [][2]int{{0, 3}, {0, 4096}, {top - 9, top + 1}} {
		for _, name := range []string{"S2", "P1"} {
			if m, e := nodal.Mean(name, c[0], c[1]); m != 1 || e != api.OK {
				t.Errorf("Mean(%s, %d, %d): %v, %v", name, c[0], c[1], m, e)
			}
		}
	}
}

// P12.4, rules 1 and 2: the span's error, then that of an empty one, then the name's; nothing stands beside it.
func TestMeanRefused(t *testing.T) {
	const least, most = math.MinInt, math.MaxInt
	for _, c := range []struct {
		a, b int
		want api.Errno
	}{
		{3, 3, api.ErrArg}, {0, 0, api.ErrArg}, {top, top, api.ErrArg}, {top + 1, top + 1, api.ErrArg},
		{0, 5000, api.ErrLong}, {0, 4097, api.ErrLong}, {top - 4096, top + 1, api.ErrLong}, {0, top + 1, api.ErrLong},
		{3, 2, api.ErrArg}, {-1, 0, api.ErrArg}, {-1, 1, api.ErrArg}, {-1, -1, api.ErrArg}, {-1, 5000, api.ErrArg}, {top, top + 2, api.ErrArg}, {top + 1, top + 2, api.ErrArg}, {0, top + 2, api.ErrArg}, {5000, 0, api.ErrArg},
		{least, most, api.ErrArg}, {most, least, api.ErrArg}, {least, least, api.ErrArg}, {most, most, api.ErrArg}, {least, 0, api.ErrArg}, {0, most, api.ErrArg}, {0, least, api.ErrArg}, {1 << 32, 1<<32 + 1, api.ErrArg},
	} {
		for _, name := range []string{"S2", "M2", "K1", "x", "", "M4"} {
			if m, e := nodal.Mean(name, c.a, c.b); !same(m, 0) || e != c.want {
				t.Errorf("Mean(%q, %d, %d): %v, %v; not %v", name, c.a, c.b, m, e, c.want)
			}
		}
	}
	for _, name := range noNames() {
		for _, c := range [][2]int{{0, 1}, {0, 4096}, {top, top + 1}} {
			if m, e := nodal.Mean(name, c[0], c[1]); !same(m, 0) || e != api.ErrMissing {
				t.Errorf("Mean(%.20q, %d, %d): %v, %v", name, c[0], c[1], m, e)
			}
		}
	}
}

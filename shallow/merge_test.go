package shallow_test

import (
	"slices"
	"testing"

	"slackwater/api"
	"slackwater/gauss"
	"slackwater/shallow"
)

// P18.3
func TestMerge(t *testing.T) {
	for key, w := range map[string][2][]api.Round{
		"none":            {nil, nil},
		"one":             {read(t, "3/5 4/5 by 1 0"), read(t, "3/5 4/5 by 1 0")},
		"the document's":  {read(t, "3/5 4/5 by 1 0", "3/5 4/5 by 2 0", "1 0 by 5 0"), read(t, "3/5 4/5 by 3 0", "1 0 by 5 0")},
		"apart":           {read(t, "3/5 4/5 by 1 0", "1 0 by 5 0", "3/5 4/5 by 2 -1"), read(t, "3/5 4/5 by 3 -1", "1 0 by 5 0")},
		"two, crossed":    {read(t, "0 1 by 1 0", "1 0 by 1/2 0", "1 0 by 1/3 1", "0 1 by 0 4", "1 0 by 1/6 0"), read(t, "0 1 by 1 4", "1 0 by 1 1")},
		"a sum of 0":      {read(t, "0 1 by 1 -2", "1 0 by 1 0", "0 1 by -1 2"), read(t, "0 1 by 0 0", "1 0 by 1 0")},
		"noughts":         {read(t, "0 1 by 0 0", "0 1 by 0 0"), read(t, "0 1 by 0 0")},
		"quarters":        {read(t, "1 0 by 1 0", "-1 0 by 2 0", "0 1 by 3 0", "0 -1 by 4 0"), read(t, "1 0 by 1 0", "-1 0 by 2 0", "0 1 by 3 0", "0 -1 by 4 0")},
		"signs and parts": {read(t, "3/5 4/5 by 1 0", "-3/5 4/5 by 2 0", "3/5 -4/5 by 3 0", "-3/5 -4/5 by 4 0", "4/5 3/5 by 5 0", "3/5 4/5 by 6 0"), read(t, "3/5 4/5 by 7 0", "-3/5 4/5 by 2 0", "3/5 -4/5 by 3 0", "-3/5 -4/5 by 4 0", "4/5 3/5 by 5 0")},
		"one Num":         {read(t, "12/13 5/13 by 1 0", "12/37 35/37 by 2 0", "20/29 21/29 by 3 0", "20/101 99/101 by 4 0"), read(t, "12/13 5/13 by 1 0", "12/37 35/37 by 2 0", "20/29 21/29 by 3 0", "20/101 99/101 by 4 0")},
	} {
		if got := must(t)(shallow.Merge(w[0])); !same(got, w[1]) {
			t.Errorf("Merge, %s: %v", key, got)
		}
	}
	d := dice(184)
	for range 60 {
		l := d.rounds(64)
		got := must(t)(shallow.Merge(l))
		if !same(got, mergedOf(l)) {
			t.Errorf("Merge of %d rounds", len(l))
		}
		if again := must(t)(shallow.Merge(got)); !same(again, got) {
			t.Errorf("Merge of Merge of %d rounds", len(l))
		}
	}
}

// P18.3: 64 that are unlike stay so, 64 alike are one; long Units are held against each other to the last word.
func TestMergeAtTheEdges(t *testing.T) {
	l := many(units(64))
	if got := must(t)(shallow.Merge(l)); !same(got, l) {
		t.Errorf("Merge of 64 unlike ones: %d", len(got))
	}
	if got := must(t)(shallow.Merge(slices.Repeat(read(t, "0 1 by 1/64 -1"), 64))); !same(got, read(t, "0 1 by 1 -64")) {
		t.Errorf("Merge of 64 alike: %d", len(got))
	}
	a, b := longUnit(32768), longUnit(32766)
	got := must(t)(shallow.Merge([]api.Round{o(a, z(1, 0)), o(b, z(2, 0)), o(turned(a), z(3, 0)), o(a, z(4, 0)), o(b, z(5, 0))}))
	if !same(got, []api.Round{o(a, z(5, 0)), o(b, z(7, 0)), o(turned(a), z(3, 0))}) {
		t.Errorf("Merge of long Units: %d", len(got))
	}
}

// tall are Numbers whose sums are too long: x and y, in the real or in the imaginary part.
func tall(im bool) (x, y, minusX api.Gauss) {
	a, b := overs()
	nought := q(0, 1)
	if im {
		return g(nought, a), g(nought, b), g(nought, opposite(a))
	}
	return g(a, nought), g(b, nought), g(opposite(a), nought)
}

// P18.3: a sum that is refused is told at the place of the Number that was to be added; sums are made in order.
func TestMergeRefuses(t *testing.T) {
	u, v := unit(2, 1), unit(3, 2)
	for _, im := range []bool{false, true} {
		x, y, minus := tall(im)
		for key, w := range map[string]struct {
			l    []api.Round
			want int
		}{
			"directly":            {[]api.Round{o(u, x), o(u, y)}, 1},
			"farther on":          {[]api.Round{o(v, x), o(u, x), o(v, z(1, 0)), o(u, z(2, 0)), o(u, y), o(u, z(1, 0))}, 4},
			"though it went back": {[]api.Round{o(u, x), o(u, y), o(u, minus)}, 1},
			"of two the first":    {[]api.Round{o(u, x), o(v, x), o(v, y), o(u, y)}, 2},
			"of two the other":    {[]api.Round{o(u, x), o(v, x), o(u, y), o(v, y)}, 2},
			"at the end":          {append(many(units(62)), o(z(1, 0), x), o(z(1, 0), y)), 63},
		} {
			refused(t, "Merge, "+key, at(api.ErrLong, w.want))(shallow.Merge(w.l))
		}
		for key, w := range map[string][2][]api.Round{
			"gone ahead": {{o(u, x), o(u, minus), o(u, y)}, {o(u, y)}},
			"unlike":     {{o(u, x), o(v, y)}, {o(u, x), o(v, y)}},
			"of two":     {{o(u, x), o(v, y), o(u, minus), o(v, y), o(u, y)}, {o(u, y), o(v, sumOf(y, y))}},
		} {
			if got := must(t)(shallow.Merge(w[0])); !same(got, w[1]) {
				t.Errorf("Merge, %s: %d", key, len(got))
			}
		}
	}
	greatest := g(r(false, full(2048, 1<<32-1), ints(1)), q(0, 1))
	refused(t, "Merge, a carry", at(api.ErrLong, 1))(shallow.Merge([]api.Round{o(u, greatest), o(u, z(1, 0))}))
	if got := must(t)(shallow.Merge([]api.Round{o(u, greatest), o(u, z(-1, 0))})); len(got) != 1 || len(got[0].Number.Re.Num) != 2048 {
		t.Error("Merge, the greatest less 1")
	}
}

// P18.3
func TestPlus(t *testing.T) {
	for key, w := range map[string][3][]api.Round{
		"none":             {nil, {}, nil},
		"none ahead":       {nil, read(t, "0 1 by 1 2"), read(t, "0 1 by 1 2")},
		"none behind":      {read(t, "0 1 by 1 2"), nil, read(t, "0 1 by 1 2")},
		"a's own":          {read(t, "0 1 by 1 2", "1 0 by 1 0", "0 1 by 5 0"), nil, read(t, "0 1 by 6 2", "1 0 by 1 0")},
		"b's own":          {nil, read(t, "0 1 by 1 2", "1 0 by 1 0", "0 1 by 5 0"), read(t, "0 1 by 6 2", "1 0 by 1 0")},
		"across":           {read(t, "3/5 4/5 by 1 0", "1 0 by 3 0"), read(t, "1 0 by 1/2 0", "0 1 by 4 0", "3/5 4/5 by 0 1"), read(t, "3/5 4/5 by 1 1", "1 0 by 7/2 0", "0 1 by 4 0")},
		"a's first stands": {read(t, "1 0 by 1 0", "0 1 by 1 0"), read(t, "0 1 by 1 0", "1 0 by 1 0"), read(t, "1 0 by 2 0", "0 1 by 2 0")},
		"a sum of 0":       {read(t, "1 0 by 1 0"), read(t, "1 0 by -1 0"), read(t, "1 0 by 0 0")},
	} {
		if got := must(t)(shallow.Plus(w[0], w[1])); !same(got, w[2]) {
			t.Errorf("Plus, %s: %v", key, got)
		}
	}
	d := dice(185)
	for range 50 {
		a, b := d.rounds(64), d.rounds(64)
		if got := must(t)(shallow.Plus(a, b)); !same(got, mergedOf(slices.Concat(a, b))) {
			t.Errorf("Plus of %d and %d rounds", len(a), len(b))
		}
	}
}

// P18.3: 64 rounds are told, however many there were ahead; 65 are not.
func TestPlusAtTheEdges(t *testing.T) {
	all := many(units(65))
	a, last := all[:64], all[64:]
	both := must(t)(shallow.Plus(a, slices.Concat(a[32:], a[:32])))
	for i, x := range both {
		if !sameRound(x, o(a[i].Unit, sumOf(a[i].Number, a[i].Number))) {
			t.Errorf("Plus of 64 and 64: the round %d", i)
		}
	}
	if len(both) != 64 {
		t.Errorf("Plus of 64 and 64: %d", len(both))
	}
	if got := must(t)(shallow.Plus(a[:63], last)); !same(got, slices.Concat(a[:63], last)) {
		t.Errorf("Plus of 63 and 1: %d", len(got))
	}
	if got := must(t)(shallow.Plus(a[:1], all[1:64])); !same(got, a) {
		t.Errorf("Plus of 1 and 63: %d", len(got))
	}
	for key, w := range map[string][2][]api.Round{"64 and 1": {a, last}, "1 and 64": {last, a}, "32 and 33": {all[:32], all[32:]}, "64 and 64": {a, all[1:]}} {
		refused(t, "Plus of "+key, at(api.ErrLong, -1))(shallow.Plus(w[0], w[1]))
	}
}

// P18.3: places of sums that are refused are counted on behind a, and are told ahead of too many rounds.
func TestPlusRefuses(t *testing.T) {
	u, v := unit(2, 1), z(0, 1)
	for _, im := range []bool{false, true} {
		x, y, minus := tall(im)
		for key, w := range map[string]struct {
			a, b []api.Round
			want int
		}{
			"in a":               {[]api.Round{o(u, x), o(u, y)}, []api.Round{o(u, minus)}, 1},
			"in b":               {[]api.Round{o(v, x)}, []api.Round{o(u, x), o(u, y)}, 2},
			"across":             {[]api.Round{o(v, z(1, 0)), o(u, x)}, []api.Round{o(v, z(1, 0)), o(u, y)}, 3},
			"in a ahead of in b": {[]api.Round{o(u, x), o(v, y), o(v, x)}, []api.Round{o(u, y)}, 2},
			"ahead of too many":  {append(many(units(65))[1:64], o(u, x)), []api.Round{o(v, x), o(u, y)}, 65},
			"at the last place":  {append(many(units(65))[1:64], o(u, x)), append(many(units(65))[1:64], o(u, y)), 127},
		} {
			refused(t, "Plus, "+key, at(api.ErrLong, w.want))(shallow.Plus(w.a, w.b))
		}
		if got := must(t)(shallow.Plus([]api.Round{o(u, x), o(u, minus)}, []api.Round{o(u, y)})); !same(got, []api.Round{o(u, y)}) {
			t.Error("Plus, gone ahead")
		}
	}
}

// P18.6: At of Merge is At, of Plus the sum; at 0 it is the sum of the Numbers.
func TestWhatMergeAndPlusTell(t *testing.T) {
	d := dice(186)
	for range 30 {
		a, b := d.rounds(12), d.rounds(12)
		merged, both := must(t)(shallow.Merge(a)), must(t)(shallow.Plus(a, b))
		for _, tick := range []int{0, 1, 2, d.below(20)} {
			x, y := mustOne(t)(shallow.At(a, tick)), mustOne(t)(shallow.At(b, tick))
			if got := mustOne(t)(shallow.At(merged, tick)); !sameGauss(got, x) {
				t.Errorf("At %d of Merge of %d rounds", tick, len(a))
			}
			want, e := gauss.Add(x, y)
			if got := mustOne(t)(shallow.At(both, tick)); e != api.OK || !sameGauss(got, want) {
				t.Errorf("At %d of Plus of %d and %d rounds", tick, len(a), len(b))
			}
		}
		sum := z(0, 0)
		for _, x := range a {
			sum = sumOf(sum, x.Number)
		}
		if got := mustOne(t)(shallow.At(a, 0)); !sameGauss(got, sum) {
			t.Errorf("At 0 of %d rounds", len(a))
		}
	}
}

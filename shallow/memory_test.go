package shallow_test

import (
	"slices"
	"testing"

	"slackwater/api"
	"slackwater/shallow"
)

// roomy is a list in memory of its own with marked words behind it.
func roomy(words []uint32) []uint32 {
	return append(slices.Clone(words), 77, 78, 79)[:len(words)]
}

func markedRatio(a api.Ratio) api.Ratio { return r(a.Neg, roomy(a.Num), roomy(a.Den)) }

func markedGauss(a api.Gauss) api.Gauss { return g(markedRatio(a.Re), markedRatio(a.Im)) }

// spare is what stands behind marked rounds.
func spare() api.Round { return o(z(77, 78), z(79, 80)) }

// marked are rounds all of whose lists have marked room behind them.
func marked(l []api.Round) []api.Round {
	rounds := make([]api.Round, 0, len(l)+3)
	for _, x := range l {
		rounds = append(rounds, o(markedGauss(x.Unit), markedGauss(x.Number)))
	}
	return append(rounds, spare(), spare(), spare())[:len(l)]
}

func markedTides(l []api.Tide) []api.Tide {
	tides := make([]api.Tide, 0, len(l)+1)
	for _, x := range l {
		x.Number = markedGauss(x.Number)
		tides = append(tides, x)
	}
	return append(tides, api.Tide{Name: "spare"})[:len(l)]
}

func stands(words, was []uint32) bool {
	return slices.Equal(words, was) && slices.Equal(words[len(was):len(was)+3], ints(77, 78, 79))
}

func untouchedGauss(a, was api.Gauss) bool {
	return a.Re.Neg == was.Re.Neg && stands(a.Re.Num, was.Re.Num) && stands(a.Re.Den, was.Re.Den) &&
		a.Im.Neg == was.Im.Neg && stands(a.Im.Num, was.Im.Num) && stands(a.Im.Den, was.Im.Den)
}

// untouched tells whether marked rounds are as they were, the room behind all lists too.
func untouched(l, was []api.Round) bool {
	k := len(was)
	return slices.EqualFunc(l, was, func(x, y api.Round) bool {
		return untouchedGauss(x.Unit, y.Unit) && untouchedGauss(x.Number, y.Number)
	}) && same(l[k:k+3], []api.Round{spare(), spare(), spare()})
}

// scribbled writes over the lists of rounds and of their spare room one by one, and tells whether the others stayed as they were.
func scribbled(l []api.Round) bool {
	var all [][]uint32
	for _, x := range l[:cap(l)] {
		for _, f := range []api.Ratio{x.Unit.Re, x.Unit.Im, x.Number.Re, x.Number.Im} {
			all = append(all, f.Num[:cap(f.Num)], f.Den[:cap(f.Den)])
		}
	}
	for i, words := range all {
		for j := range words {
			words[j] = uint32(12345 + i)
		}
	}
	for i, words := range all {
		for _, w := range words {
			if w != uint32(12345+i) {
				return false
			}
		}
	}
	return true
}

// lists are such as are told fast, and some that are refused here or there.
func lists(t *testing.T) map[string][]api.Round {
	t.Helper()
	x, y, _ := tall(false)
	d := dice(191)
	return map[string][]api.Round{
		"none":      nil,
		"one":       read(t, "3/5 4/5 by 1 0"),
		"noughts":   read(t, "1 0 by 0 0", "0 1 by 0 0", "1 0 by 0 0"),
		"alike":     read(t, "3/5 4/5 by 1 1/2", "3/5 4/5 by -1 2", "1 0 by 5 0", "3/5 4/5 by 1/3 0"),
		"thrown":    d.rounds(7),
		"many":      many(units(64)),
		"too many":  many(units(65)),
		"long sums": {o(unit(2, 1), x), o(unit(3, 2), x), o(unit(2, 1), y)},
		"wrong":     {o(z(1, 0), z(1, 0)), o(z(1, 1), z(1, 0))},
		"rough":     {o(z(1, 0), g(r(false, ints(2), ints(4)), q(1, 2)))},
	}
}

// calls are those that tell rounds of two lists, or of the first one.
func calls() map[string]func(a, b []api.Round) ([]api.Round, api.Fault) {
	return map[string]func(a, b []api.Round) ([]api.Round, api.Fault){
		"Merge": func(a, _ []api.Round) ([]api.Round, api.Fault) { return shallow.Merge(a) },
		"Conj":  func(a, _ []api.Round) ([]api.Round, api.Fault) { return shallow.Conj(a) },
		"Plus":  shallow.Plus,
		"Times": shallow.Times,
		"At 3": func(a, _ []api.Round) ([]api.Round, api.Fault) {
			n, f := shallow.At(a, 3)
			return []api.Round{o(n, z(0, 0))}, f
		},
	}
}

// Rule 4: what is told is new memory: writing over it changes neither what was handed in nor another answer; what was handed in stays as it is, its spare room too, and so it does where a call is refused.
func TestMemory(t *testing.T) {
	for name, call := range calls() {
		for one, a := range lists(t) {
			for other, b := range lists(t) {
				usedA, usedB := marked(a), marked(b)
				first, f := call(usedA, usedB)
				second, again := call(usedA, usedB)
				if f != again || !same(first, second) {
					t.Errorf("%s of %s and %s: unlike answers", name, one, other)
				}
				kept := marked(second)
				if !scribbled(first) || !same(second, kept) {
					t.Errorf("%s of %s and %s: memory that is not its own", name, one, other)
				}
				if !untouched(usedA, a) || !untouched(usedB, b) {
					t.Errorf("%s of %s and %s: what was handed in is not as it was", name, one, other)
				}
			}
		}
	}
}

// Rule 4, for Of and Check.
func TestMemoryOfConstituents(t *testing.T) {
	tides := []api.Tide{c("M2", 2, 1, g(q(1, 2), q(-3, 4))), c("M2", 2, 1, z(0, 0)), c("S2", 1000, -999, z(1<<40, 5))}
	used := markedTides(tides)
	first, second := must(t)(shallow.Of(used)), must(t)(shallow.Of(used))
	kept := marked(second)
	if !scribbled(first) || !same(second, kept) {
		t.Error("Of: memory that is not its own")
	}
	for i, x := range used {
		if x.Name != tides[i].Name || x.Rotor != tides[i].Rotor || !untouchedGauss(x.Number, tides[i].Number) {
			t.Errorf("Of: the constituent %d is not as it was", i)
		}
	}
	if used[:4][3].Name != "spare" {
		t.Error("Of: the spare room is not as it was")
	}
	for key, l := range lists(t) {
		used := marked(l)
		if shallow.Check(used) != shallow.Check(l) || !untouched(used, l) {
			t.Errorf("Check of %s: it is not as it was", key)
		}
	}
}

// One memory may stand in several places of what is handed in: as both lists, and in several rounds.
func TestOneMemoryInSeveralPlaces(t *testing.T) {
	f := unit(2, 1)
	shared := []api.Round{o(f, f), o(f, f), o(turned(f), turned(f)), o(z(1, 0), f)}
	apart := marked(shared)
	for name, call := range calls() {
		want, fault := call(apart, marked(shared))
		if got := must(t)(call(shared, shared)); fault != (api.Fault{}) || !same(got, want) {
			t.Errorf("%s of one memory", name)
		}
		if got := must(t)(call(shared, shared)); !scribbled(got) || !same(shared, apart) {
			t.Errorf("%s of one memory: memory that is not its own", name)
		}
	}
	one := r(false, ints(1), nil)
	one.Den = one.Num
	l := []api.Round{o(g(one, q(0, 1)), g(one, one))}
	if got := must(t)(shallow.Merge(l)); !scribbled(got) || !same(l, read(t, "1 0 by 1 1")) {
		t.Error("Num and Den in one memory")
	}
	// A list and a piece of it, with room behind that the other list stands in.
	whole := marked(many(units(6)))
	if got := must(t)(shallow.Plus(whole[:2], whole[2:])); !same(got, many(units(6))) || !untouched(whole, many(units(6))) {
		t.Error("Plus of two pieces of one list")
	}
	if got := must(t)(shallow.Plus(whole[:2], whole[3:])); len(got) != 5 || !untouched(whole, many(units(6))) {
		t.Error("Plus of two pieces of one list, apart")
	}
}

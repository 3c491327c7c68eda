package shallow_test

import (
	"slices"
	"testing"

	"slackwater/api"
	"slackwater/exact"
	"slackwater/rotor"
	"slackwater/shallow"
	"slackwater/tide"
)

// P18.1: lists that may be.
func TestCheck(t *testing.T) {
	greatest := r(false, full(2048, 1<<32-1), ints(1))
	for key, l := range map[string][]api.Round{
		"none":               nil,
		"no one":             {},
		"quarters of a turn": {o(z(1, 0), z(0, 0)), o(z(-1, 0), z(1, 0)), o(z(0, 1), z(1, 1)), o(z(0, -1), z(-1, 2))},
		"one twice":          read(t, "3/5 4/5 by 1 0", "3/5 4/5 by 1 0"),
		"mirrored":           read(t, "-3/5 4/5 by 1 0", "3/5 -4/5 by 1 0", "-4/5 -3/5 by 1/2 -1/3"),
		"64":                 many(units(64)),
		"a long Number":      {o(z(1, 0), g(greatest, opposite(greatest)))},
		"a long Unit":        {o(longUnit(32768), z(1, 0)), o(turned(longUnit(32766)), z(1, 0))},
	} {
		if f := shallow.Check(l); f != (api.Fault{}) {
			t.Errorf("Check, %s: %v at %d", key, f.Err, f.At)
		}
	}
}

// P18.1: lists that may not be, by the first fault; P18.3 to P18.5: all calls refuse them so, ahead of all else.
func TestWrongLists(t *testing.T) {
	x := many(units(3))
	for key, w := range wrongLists() {
		if f := shallow.Check(w.l); f != w.want {
			t.Errorf("Check, %s: %v at %d, not %v at %d", key, f.Err, f.At, w.want.Err, w.want.At)
		}
		refused(t, "Merge, "+key, w.want)(shallow.Merge(w.l))
		refused(t, "Conj, "+key, w.want)(shallow.Conj(w.l))
		for _, tick := range []int{0, 1, 1024, -1, 1025} {
			refusedAt(t, key, w.l, tick, w.want)
		}
		refused(t, "Plus and none, "+key, w.want)(shallow.Plus(w.l, nil))
		refused(t, "Times none, "+key, w.want)(shallow.Times(w.l, nil))
		// The first list's fault is told, whatever the second one is.
		behind := []api.Round{{}}
		refused(t, "Plus, "+key, w.want)(shallow.Plus(w.l, behind))
		refused(t, "Times, "+key, w.want)(shallow.Times(w.l, behind))
		refused(t, "Plus ahead of a wrong one, "+key, at(api.ErrNormal, 0))(shallow.Plus(behind, w.l))
		refused(t, "Times ahead of a wrong one, "+key, at(api.ErrNormal, 0))(shallow.Times(behind, w.l))
		// The second one's places go on behind the first list.
		for k := range 4 {
			want := w.want
			if want.At >= 0 {
				want.At += k
			}
			refused(t, "Plus behind others, "+key, want)(shallow.Plus(x[:k], w.l))
			refused(t, "Times behind others, "+key, want)(shallow.Times(x[:k], w.l))
		}
	}
}

// P18.2
func TestOf(t *testing.T) {
	l := must(t)(shallow.Of([]api.Tide{c("A", 2, 1, z(1, 0))}))
	if !same(l, read(t, "3/5 4/5 by 1 0")) {
		t.Errorf("Of A: %v", l)
	}
	for tick, want := range []string{"1 0", "3/5 4/5", "-7/25 24/25"} {
		if got := mustOne(t)(shallow.At(l, tick)); !sameGauss(got, parse(t, want)) {
			t.Errorf("At %d of A: %v", tick, got)
		}
	}
	// One name, one rotor may stand there again: nothing is merged.
	tides := []api.Tide{c("B", 1, 2, g(q(1, 3), q(-1, 2))), c("B", 3, -1, z(0, 0)), c("C", 1, 2, z(0, -7)), c("B", 1, 2, g(q(1, 3), q(-1, 2))), c("a", 1000, -999, z(5, 0))}
	want := read(t, "-3/5 4/5 by 1/3 -1/2", "4/5 -3/5 by 0 0", "-3/5 4/5 by 0 -7", "-3/5 4/5 by 1/3 -1/2", "1999/1998001 -1998000/1998001 by 5 0")
	if got := must(t)(shallow.Of(tides)); !same(got, want) {
		t.Errorf("Of several: %v", got)
	}
	for _, none := range [][]api.Tide{nil, {}} {
		if got := must(t)(shallow.Of(none)); len(got) > 0 {
			t.Errorf("Of none: %v", got)
		}
	}
	d := dice(181)
	for range 40 {
		var tides []api.Tide
		var want []api.Round
		for range d.below(65) {
			x := api.Tide{Name: "T", Rotor: d.rotor(), Number: d.number()}
			tides = append(tides, x)
			want = append(want, o(unit(int64(x.Rotor.Far), int64(x.Rotor.Near)), x.Number))
		}
		if got := must(t)(shallow.Of(tides)); !same(got, want) || shallow.Check(got) != (api.Fault{}) {
			t.Errorf("Of %d constituents", len(tides))
		}
	}
}

// P18.2: 64 may be, 65 not, whatever they are; of wrong ones the first is told.
func TestOfRefuses(t *testing.T) {
	fine := slices.Repeat([]api.Tide{c("M2", 2, 1, z(1, 0))}, 64)
	if got := must(t)(shallow.Of(fine)); len(got) != 64 {
		t.Errorf("Of 64: %d rounds", len(got))
	}
	for _, k := range []int{65, 66, 128, 256 + 64, 1000} {
		refused(t, "Of too many", at(api.ErrLong, -1))(shallow.Of(slices.Repeat(fine[:1], k)))
		refused(t, "Of too many empty ones", at(api.ErrLong, -1))(shallow.Of(make([]api.Tide, k)))
	}
	for key, w := range wrongTides() {
		refused(t, "Of, "+key, at(w.want, 0))(shallow.Of([]api.Tide{w.a, {}}))
		refused(t, "Of, behind others, "+key, at(w.want, 2))(shallow.Of([]api.Tide{fine[0], fine[0], w.a, fine[0], {}}))
		refused(t, "Of, behind a wrong one, "+key, at(api.ErrRotor, 1))(shallow.Of([]api.Tide{fine[0], c("W", 1, 1, z(1, 0)), w.a}))
		refused(t, "Of, at the end, "+key, at(w.want, 63))(shallow.Of(append(fine[:63:63], w.a)))
		refused(t, "Of, too many, "+key, at(api.ErrLong, -1))(shallow.Of(append(fine[:64:64], w.a)))
	}
}

// P18.6: rounds of constituents have their numbers; a constituent and its conjugate have a real one.
func TestOfConstituents(t *testing.T) {
	d := dice(182)
	for range 30 {
		x := api.Tide{Name: "X", Rotor: d.rotor(), Number: d.number()}
		other, e := tide.Conj(x)
		if e != api.OK {
			t.Fatal(e)
		}
		alone, both := must(t)(shallow.Of([]api.Tide{x})), must(t)(shallow.Of([]api.Tide{x, other}))
		for _, tick := range []int{0, 1, 2, d.below(100)} {
			want, e := exact.Number(x, tick)
			if got := mustOne(t)(shallow.At(alone, tick)); e != api.OK || !sameGauss(got, want) {
				t.Errorf("At %d of %v", tick, x.Rotor)
			}
			if got := mustOne(t)(shallow.At(both, tick)); !sameRatio(got.Im, q(0, 1)) || !sameRatio(got.Re, sumOf(want, want).Re) {
				t.Errorf("At %d of %v and its conjugate is not real", tick, x.Rotor)
			}
		}
	}
	for _, tick := range []int{1023, 1024} {
		x := c("M2", 2, 1, g(q(1, 3), q(-5, 2)))
		l := must(t)(shallow.Of([]api.Tide{x}))
		want, e := rotor.Power(x.Rotor, tick)
		if got := mustOne(t)(shallow.At(l, tick)); e != api.OK || !sameGauss(got, productOf(want, x.Number)) {
			t.Errorf("At %d of M2", tick)
		}
	}
}

// P18.5
func TestConj(t *testing.T) {
	l := read(t, "3/5 4/5 by 1 2", "1 0 by 3 0", "0 1 by 0 -1/2", "3/5 4/5 by 5 0", "3/5 -4/5 by 0 0", "-1 0 by -1 -1")
	// Nothing is merged, nor put in another order.
	want := read(t, "3/5 -4/5 by 1 -2", "1 0 by 3 0", "0 -1 by 0 1/2", "3/5 -4/5 by 5 0", "3/5 4/5 by 0 0", "-1 0 by -1 1")
	if got := must(t)(shallow.Conj(l)); !same(got, want) {
		t.Errorf("Conj: %v", got)
	}
	if got := must(t)(shallow.Conj(want)); !same(got, l) {
		t.Errorf("Conj of Conj: %v", got)
	}
	for _, none := range [][]api.Round{nil, {}} {
		if got := must(t)(shallow.Conj(none)); len(got) > 0 {
			t.Errorf("Conj of none: %v", got)
		}
	}
	long := o(longUnit(32768), g(r(false, full(2048, 1<<32-1), ints(1)), r(true, ints(1), full(2048, 1<<32-1))))
	if got := must(t)(shallow.Conj([]api.Round{long})); !same(got, []api.Round{o(turned(long.Unit), turned(long.Number))}) {
		t.Error("Conj of a long one")
	}
	if got := must(t)(shallow.Conj(many(units(64)))); len(got) != 64 {
		t.Errorf("Conj of 64: %d", len(got))
	}
	d := dice(183)
	for range 40 {
		l := d.rounds(64)
		var want []api.Round
		for _, x := range l {
			want = append(want, o(turned(x.Unit), turned(x.Number)))
		}
		if got := must(t)(shallow.Conj(l)); !same(got, want) {
			t.Errorf("Conj of %d rounds", len(l))
		}
	}
}

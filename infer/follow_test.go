package infer_test

import (
	"testing"

	"slackwater/api"
	"slackwater/gauss"
	"slackwater/infer"
	"slackwater/normal"
	"slackwater/ratio"
)

// What follows: P24.6.

// Near is 0 or above, 0 of one rotor twice and of less than two samples, else above; and it is the same with both changed about.
func TestNearIsAboveNought(t *testing.T) {
	d := dice(2405)
	for i := range 400 {
		a, b, n := d.rotor(), d.rotor(), d.below(10)
		switch i % 8 {
		case 0:
			b = a
		case 1:
			b = o(a.Far, -a.Near)
		case 2:
			n = d.below(257)
		}
		x := nearOf(t, a, b, n)
		want := 1
		if n < 2 || a == b {
			want = 0
		}
		if got := ratio.Sign(x); got != want {
			t.Errorf("Near of %v, %v and %d: the sign %d, not %d", a, b, n, got, want)
		}
		if !sameRatio(nearOf(t, b, a, n), x) {
			t.Errorf("Near of %v, %v and %d: another one, changed about", a, b, n)
		}
	}
}

// Near is the determinant of the equations of chapter 21.
func TestNearIsTheDeterminant(t *testing.T) {
	d := dice(2406)
	var ticks []int
	for n := range 40 {
		l := d.rotors(2)
		rows, f := normal.Of(ticks, l)
		if f != (api.Fault{}) {
			t.Fatal(f)
		}
		var w way
		left, right := w.times(planeOf(rows[0][0]), planeOf(rows[1][1])), w.times(planeOf(rows[0][1]), planeOf(rows[1][0]))
		if got := nearOf(t, l[0], l[1], n); left.im.Cmp(right.im) != 0 || !sameRatio(got, fraction(left.re.Sub(left.re, right.re))) {
			t.Errorf("Near of %v and %d: no determinant", l, n)
		}
		ticks = append(ticks, n)
	}
}

// Split's two come to the total together, and the second is the ratio times the first.
func TestSplitComesTogether(t *testing.T) {
	d := dice(2407)
	for range 500 {
		total, ratio := d.number(), d.number()
		first, second := splitOf(t, total, ratio)
		var w way
		if !w.plus(planeOf(first), planeOf(second)).is(planeOf(total)) || !w.times(planeOf(ratio), planeOf(first)).is(planeOf(second)) {
			t.Errorf("Split of %v by %v", total, ratio)
		}
	}
}

// sumOf are the Numbers of constituents, together.
func sumOf(l []api.Tide) plane {
	var w way
	sum := whole(0, 0)
	for _, c := range l {
		sum = w.plus(sum, planeOf(c.Number))
	}
	return sum
}

// Behind Apply the Numbers come to what they did ahead, and all else of the list stays as it was.
func TestApplyKeepsTheSum(t *testing.T) {
	d := dice(2408)
	count := 0
	for range 600 {
		l, rules := d.thrown()
		got, f := infer.Apply(l, rules)
		if f != (api.Fault{}) {
			continue
		}
		count++
		if len(got) != len(l)+len(rules) || !sumOf(got).is(sumOf(l)) {
			t.Errorf("%d constituents of %d by %d rules, or another sum", len(got), len(l), len(rules))
		}
		for i, c := range l {
			if got[i].Name != c.Name || got[i].Rotor != c.Rotor {
				t.Errorf("the constituent %d is another one", i)
			}
		}
		for i, r := range rules {
			if c := got[len(l)+i]; c.Name != r.Name || c.Rotor != r.Rotor || gauss.Check(c.Number) != api.OK {
				t.Errorf("the rule %d's constituent is another one", i)
			}
		}
	}
	if count < 100 {
		t.Errorf("%d answered OK", count)
	}
}

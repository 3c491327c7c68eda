package rotor_test

import (
	"iter"
	"math"
	"testing"

	"slackwater/api"
	"slackwater/gauss"
	"slackwater/rotor"
)

// P5.3

func TestPower(t *testing.T) {
	ok := must(t)
	for _, c := range []struct {
		r    api.Rotor
		t    int
		want api.Gauss
	}{
		{o(2, 1), 2, z(-7, 25, 24, 25)}, {o(2, 1), 0, z(1, 1, 0, 1)}, {o(2, 1), -1, z(3, 5, -4, 5)}, {o(2, 1), 1, z(3, 5, 4, 5)}, {o(2, 1), 3, z(-117, 125, 44, 125)}, {o(2, 1), -3, z(-117, 125, -44, 125)}, {o(2, 1), 4, z(-527, 625, -336, 625)},
		{o(3, 1), 2, z(7, 25, 24, 25)}, {o(3, -1), 3, z(-44, 125, -117, 125)}, {o(1, 3), -2, z(7, 25, 24, 25)}, {o(1000, 999), 0, z(1, 1, 0, 1)}, {o(1000, 999), -1, z(1999, 1998001, -1998000, 1998001)}, {o(1000, 999), 2, z(1999*1999-1998000*1998000, 1998001*1998001, 2*1999*1998000, 1998001*1998001)},
	} {
		if got := ok(rotor.Power(c.r, c.t)); !same(got, c.want) {
			t.Errorf("Power of %v to %d: %s", c.r, c.t, text(got))
		}
	}
}

// Each power is held against the product of so many times the number.
func TestPowersAreProducts(t *testing.T) {
	ok := must(t)
	for _, c := range []struct {
		r   api.Rotor
		top int
	}{{o(2, 1), 1024}, {o(3, -1), 300}, {o(5, 3), 100}, {o(1000, 999), 40}, {o(1, -1000), 40}, {o(997, -999), 40}} {
		want, step := z(1, 1, 0, 1), numberOf(c.r)
		for k := range c.top + 1 {
			if got := ok(rotor.Power(c.r, k)); !same(got, want) {
				t.Fatalf("Power of %v to %d: %s", c.r, k, text(got))
			}
			if got := ok(rotor.Power(c.r, -k)); !same(got, opposite(want)) {
				t.Fatalf("Power of %v to %d: %s", c.r, -k, text(got))
			}
			want = ok(gauss.Mul(want, step))
		}
	}
}

func TestPowerUpTo1024(t *testing.T) {
	ok := must(t)
	for _, r := range right() {
		for _, k := range []int{1024, -1024, 1023, -1023} {
			ok(rotor.Power(r, k))
		}
		for _, k := range []int{1025, -1025, 1026, 2048, -2048, math.MaxInt, math.MinInt, math.MinInt + 1, math.MaxInt32, 1 << 32, -1 << 32, 1<<32 + 1} {
			g, e := rotor.Power(r, k)
			refused(t, "Power", g, e, api.ErrArg)
		}
	}
	g := ok(rotor.Power(o(1000, 999), 1024))
	half := ok(rotor.Power(o(1000, 999), 512))
	if want := ok(gauss.Mul(half, half)); !same(g, want) || len(g.Re.Den) < 600 {
		t.Errorf("Power of the greatest to 1,024: %s", text(g))
	}
	if norm, e := gauss.Norm(g); e != api.OK || !sameRatio(norm, q(1, 1)) {
		t.Errorf("Norm of the greatest to 1,024: %v", e)
	}
}

// P5.4

func TestSteps(t *testing.T) {
	for _, r := range []api.Rotor{o(2, 1), o(3, -1), o(1, -1000)} {
		k := 0
		want, step := z(1, 1, 0, 1), numberOf(r)
		for n, g := range rotor.Steps(r) {
			if n != k || gauss.Check(g) != api.OK {
				t.Fatalf("step %d of %v: %d", k, r, n)
			}
			if n < 100 && !same(g, want) {
				t.Fatalf("step %d of %v: %s", k, r, text(g))
			}
			if n < 100 {
				want, _ = gauss.Mul(want, step)
			} else if power, e := rotor.Power(r, n); n%25 == 24 && (!same(g, power) || e != api.OK) {
				t.Fatalf("step %d of %v: %s", k, r, text(g))
			}
			k++
		}
		if k != 1025 {
			t.Errorf("Steps of %v goes over %d", r, k)
		}
	}
}

func TestStepsOfAllThatMayBe(t *testing.T) {
	for _, r := range right() {
		for n, g := range rotor.Steps(r) {
			if power, e := rotor.Power(r, n); !same(g, power) || e != api.OK {
				t.Fatalf("step %d of %v: %s", n, r, text(g))
			}
			if n == 7 {
				break
			}
		}
	}
	for _, r := range wrong() {
		steps := rotor.Steps(r)
		if steps == nil {
			t.Fatalf("Steps of %v is nil", r)
		}
		steps(func(int, api.Gauss) bool { t.Errorf("Steps of %v goes over something", r); return true })
	}
}

// It may be stopped, gone over again, and by several at once; what is told may be written over.
func TestStepsAgain(t *testing.T) {
	steps := rotor.Steps(o(2, 1))
	for _, stop := range []int{0, 1, 5, 5, 12} {
		k := 0
		for n, g := range steps {
			want, _ := rotor.Power(o(2, 1), k)
			if n != k || !same(g, want) {
				t.Fatalf("step %d: %d %s", k, n, text(g))
			}
			if !scribbled(g) {
				t.Fatalf("step %d: its lists share memory", k)
			}
			if k == stop {
				break
			}
			k++
		}
		if k != stop {
			t.Errorf("stopped at %d, not at %d", k, stop)
		}
	}
	for n, g := range steps {
		for m, h := range steps {
			if m == n && !same(g, h) {
				t.Fatalf("step %d within a range: %s", m, text(h))
			}
			if m == n {
				break
			}
		}
		if n == 6 {
			break
		}
	}
	next, stop := iter.Pull2(steps)
	defer stop()
	other, end := iter.Pull2(steps)
	defer end()
	for k := range 6 {
		n, g, ok := next()
		m, h, too := other()
		if n != k || m != k || !ok || !too || !same(g, h) {
			t.Fatalf("step %d by two: %d %d", k, n, m)
		}
	}
	stop()
	if m, h, ok := other(); m != 6 || !ok || !same(h, numberAt(t, 6)) {
		t.Errorf("step 6 behind the other's end: %d %v", m, ok)
	}
}

func numberAt(t *testing.T, k int) api.Gauss { return must(t)(rotor.Power(o(2, 1), k)) }

// Nothing is made beyond what is asked for: a step that is stopped at is the last call.
func TestStepsStopsAtOnce(t *testing.T) {
	calls := 0
	rotor.Steps(o(2, 1))(func(int, api.Gauss) bool { calls++; return calls < 3 })
	if calls != 3 {
		t.Errorf("%d calls, not 3", calls)
	}
	calls = 0
	rotor.Steps(o(2, 1))(func(n int, _ api.Gauss) bool { calls++; return n < 1024 })
	if calls != 1025 {
		t.Errorf("%d calls, not 1025", calls)
	}
}

// P5.7

func TestLawsOfPowers(t *testing.T) {
	ok := must(t)
	d := dice(57)
	for i := range 60 {
		r := d.rotor()
		top := 40
		if i%20 == 0 {
			top = 500
		}
		a, b := d.below(2*top+1)-top, d.below(2*top+1)-top
		x, y := ok(rotor.Power(r, a)), ok(rotor.Power(r, b))
		if together := ok(rotor.Power(r, a+b)); !same(together, ok(gauss.Mul(x, y))) {
			t.Fatalf("Power of %v to %d and %d together", r, a, b)
		}
		if norm, e := gauss.Norm(x); e != api.OK || !sameRatio(norm, q(1, 1)) {
			t.Fatalf("Norm of %v to %d", r, a)
		}
		if one := same(x, z(1, 1, 0, 1)); one != (a == 0) {
			t.Fatalf("Power of %v to %d is 1: %v", r, a, one)
		}
		c, _ := rotor.Conj(r)
		if back := ok(rotor.Power(c, a)); !same(back, ok(gauss.Conj(x))) || !same(back, ok(rotor.Power(r, -a))) {
			t.Fatalf("Power of the conjugate of %v to %d", r, a)
		}
	}
	for _, r := range append(right(), smallest(6)...) {
		if norm, e := gauss.Norm(ok(rotor.Of(r))); e != api.OK || !sameRatio(norm, q(1, 1)) {
			t.Errorf("Norm of %v: %v", r, e)
		}
		for _, k := range []int{1, 2, 3, 4, 6, 8, 12, 360, 1024, -1, -2, -4, -1024} {
			if same(ok(rotor.Power(r, k)), z(1, 1, 0, 1)) {
				t.Errorf("Power of %v to %d is 1", r, k)
			}
		}
	}
}

// Answers are new memory.
func TestPowersAreNewMemory(t *testing.T) {
	for _, r := range right() {
		for _, k := range []int{0, 1, -1, 2, 3, 64, -65} {
			first, _ := rotor.Power(r, k)
			was := copyOf(first)
			if !scribbled(first) {
				t.Errorf("Power of %v to %d: its lists share memory", r, k)
			}
			if second, _ := rotor.Power(r, k); !same(second, was) {
				t.Errorf("Power of %v to %d again: %s", r, k, text(second))
			}
		}
	}
}

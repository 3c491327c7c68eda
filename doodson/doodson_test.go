package doodson_test

import (
	"testing"

	"slackwater/api"
	"slackwater/doodson"
	"slackwater/turn"
)

// P11.1: each number of 8 bits at each place, and all that may be.
func TestCheck(t *testing.T) {
	for k := range 6 {
		for x := -128; x <= 127; x++ {
			want := api.OK
			if x < -4 || x > 4 {
				want = api.ErrDoodson
			}
			n := api.Doodson{4, -4, 0, 1, -1, 3}
			n[k] = int8(x)
			if e := doodson.Check(n); e != want {
				t.Errorf("Check(%v): %v, not %v", n, e, want)
			}
		}
	}
	for n := range everyOne {
		if e := doodson.Check(n); e != api.OK {
			t.Fatalf("Check(%v): %v", n, e)
		}
	}
	for _, n := range wrongOnes() {
		if e := doodson.Check(n); e != api.ErrDoodson {
			t.Errorf("Check(%v): %v", n, e)
		}
	}
}

// P11.1, rule 2: each call that answers an error refuses numbers that may not be, and tells nothing beside.
func TestRefused(t *testing.T) {
	for _, n := range wrongOnes() {
		if v, e := doodson.Speed(n); v != (api.Turn{}) || e != api.ErrDoodson {
			t.Errorf("Speed(%v): %v, %v", n, v, e)
		}
		if m, e := doodson.Conj(n); m != (api.Doodson{}) || e != api.ErrDoodson {
			t.Errorf("Conj(%v): %v, %v", n, m, e)
		}
		if k, e := doodson.Species(n); k != 0 || e != api.ErrDoodson {
			t.Errorf("Species(%v): %d, %v", n, k, e)
		}
		if s, e := doodson.Print(n); s != "" || e != api.ErrDoodson {
			t.Errorf("Print(%v): %q, %v", n, s, e)
		}
		for _, tick := range append(noTicks(), 0, 1, top) {
			if p, e := doodson.Phase(n, tick); p != (api.Turn{}) || e != api.ErrDoodson {
				t.Errorf("Phase(%v, %d): %v, %v", n, tick, p, e)
			}
		}
	}
}

// P11.1, P11.3: either of two that may not be is refused, also where what would be told, round an int8 or not, may be.
func TestRefusedOfTwo(t *testing.T) {
	for _, n := range wrongOnes() {
		for _, m := range append(wrongOnes(), api.Doodson{}, api.Doodson{1, -1, 0, 4, -4, 2}, api.Doodson{-1, 1, 0, -4, 4, -2}, api.Doodson{4, 4, 4, 4, 4, 4}, api.Doodson{-4, -4, -4, -4, -4, -4}) {
			for _, c := range [][2]api.Doodson{{n, m}, {m, n}} {
				if p, e := doodson.Times(c[0], c[1]); p != (api.Doodson{}) || e != api.ErrDoodson {
					t.Errorf("Times(%v, %v): %v, %v", c[0], c[1], p, e)
				}
				if p, e := doodson.Over(c[0], c[1]); p != (api.Doodson{}) || e != api.ErrDoodson {
					t.Errorf("Over(%v, %v): %v, %v", c[0], c[1], p, e)
				}
			}
		}
	}
}

// P11.2
func TestSpeed(t *testing.T) {
	for _, c := range []struct {
		n    api.Doodson
		want api.Turn
	}{
		{api.Doodson{2}, api.Turn{Part: 144920521, Whole: 1800000000}},
		{api.Doodson{2, 2, -2}, api.Turn{Part: 1, Whole: 12}},
		{api.Doodson{-2, -2, 2}, api.Turn{Part: 11, Whole: 12}},
		{api.Doodson{}, api.Turn{Part: 0, Whole: 1}},
		{api.Doodson{0, 0, 0, 0, 0, 1}, api.Turn{Part: 1, Whole: 180000000}},
		{api.Doodson{0, 0, 0, 0, 0, -1}, api.Turn{Part: 179999999, Whole: 180000000}},
		{api.Doodson{-1}, api.Turn{Part: 3455079479, Whole: circle}},
	} {
		if v, e := doodson.Speed(c.n); v != c.want || e != api.OK {
			t.Errorf("Speed(%v): %v, %v; not %v", c.n, v, e, c.want)
		}
	}
}

// P11.2: of all that may be, by sums of units.
func TestSpeedOfAll(t *testing.T) {
	l := angles()
	for n := range everyOne {
		var sum int64
		for k, x := range n {
			sum += int64(x) * l[k].step
		}
		if v, e := doodson.Speed(n); v != round(sum) || e != api.OK {
			t.Fatalf("Speed(%v): %v, %v; not %v", n, v, e, round(sum))
		}
	}
}

// P11.2
func TestPhase(t *testing.T) {
	for _, c := range []struct {
		n    api.Doodson
		tick int
		want api.Turn
	}{
		{api.Doodson{2}, 0, api.Turn{Part: 989, Whole: 56250}},
		{api.Doodson{2}, 1, api.Turn{Part: 176568521, Whole: 1800000000}},
		{api.Doodson{-2}, 0, api.Turn{Part: 55261, Whole: 56250}},
		{api.Doodson{2, 2, -2}, 0, api.Turn{Part: 0, Whole: 1}},
		{api.Doodson{2, 2, -2}, 5, api.Turn{Part: 5, Whole: 12}},
		{api.Doodson{2, 2, -2}, top, api.Turn{Part: 1, Whole: 3}},
		{api.Doodson{}, 0, api.Turn{Part: 0, Whole: 1}},
		{api.Doodson{}, top, api.Turn{Part: 0, Whole: 1}},
	} {
		if p, e := doodson.Phase(c.n, c.tick); p != c.want || e != api.OK {
			t.Errorf("Phase(%v, %d): %v, %v; not %v", c.n, c.tick, p, e, c.want)
		}
	}
}

// P11.2: at ticks all over, by sums of units.
func TestPhaseOfSome(t *testing.T) {
	l := angles()
	for _, n := range someOnes() {
		for _, tick := range someTicks() {
			var sum int64
			for k, x := range n {
				sum += int64(x) * (l[k].first + int64(tick)*l[k].step)
			}
			if p, e := doodson.Phase(n, tick); p != round(sum) || e != api.OK {
				t.Fatalf("Phase(%v, %d): %v, %v; not %v", n, tick, p, e, round(sum))
			}
		}
	}
}

// P11.2: no tick, no turn, not even of six noughts.
func TestPhaseRefused(t *testing.T) {
	for _, n := range someOnes() {
		for _, tick := range noTicks() {
			if p, e := doodson.Phase(n, tick); p != (api.Turn{}) || e != api.ErrArg {
				t.Fatalf("Phase(%v, %d): %v, %v", n, tick, p, e)
			}
		}
	}
}

// P11.6: from a tick to the next one Phase grows by just Speed.
func TestPhaseGoesOn(t *testing.T) {
	for _, n := range someOnes() {
		speed, _ := doodson.Speed(n)
		for _, tick := range someTicks() {
			if tick == top {
				continue
			}
			at, _ := doodson.Phase(n, tick)
			want, e := turn.Add(at, speed)
			if p, f := doodson.Phase(n, tick+1); p != want || e != api.OK || f != api.OK {
				t.Fatalf("Phase(%v, %d): %v, %v; not %v, %v", n, tick+1, p, f, want, e)
			}
		}
	}
}

package argument_test

import (
	"math/big"
	"slices"
	"testing"

	"slackwater/api"
	"slackwater/argument"
	"slackwater/turn"
)

// P10.1
func TestUnits(t *testing.T) {
	for _, c := range []struct {
		k, tick int
		want    int64
	}{
		{0, 0, 31648000}, {1, 0, 2770247000}, {2, 0, 2801895000}, {3, 0, 3343853000}, {4, 0, 1008432000}, {5, 0, 2812209000},
		{0, 1, 176568521}, {1, 1, 2775737165}, {2, 1, 2802305686}, {3, 1, 3343899418}, {4, 1, 1008454064}, {5, 1, 2812209020},
		{0, 24, 3509740504}, {0, 25, 54661025}, {1, 151, 3599261915}, {1, 152, 4752080},
		{0, top, 611876096}, {5, top, 2833180520},
	} {
		if n, e := argument.Units(c.k, c.tick); n != c.want || e != api.OK {
			t.Errorf("Units(%d, %d): %d, %v; not %d", c.k, c.tick, n, e, c.want)
		}
	}
}

// P10.1: by whole numbers of any length, at ticks all over.
func TestUnitsOfTheTable(t *testing.T) {
	for k, a := range angles() {
		for _, tick := range someTicks() {
			sum := new(big.Int).Mul(big.NewInt(int64(tick)), big.NewInt(a.step))
			sum.Add(sum, big.NewInt(a.first)).Mod(sum, big.NewInt(circle))
			if n, e := argument.Units(k, tick); n != sum.Int64() || e != api.OK {
				t.Fatalf("Units(%d, %d): %d, %v; not %v", k, tick, n, e, sum)
			}
		}
	}
}

// P10.1: the turn of the units, in lowest terms, is one that may be.
func TestAngle(t *testing.T) {
	for _, c := range []struct {
		k, tick int
		want    api.Turn
	}{{0, 0, api.Turn{Part: 989, Whole: 112500}}, {0, 1, api.Turn{Part: 176568521, Whole: circle}}, {1, 0, api.Turn{Part: 2770247, Whole: 3600000}}, {2, 0, api.Turn{Part: 186793, Whole: 240000}}, {4, 0, api.Turn{Part: 7003, Whole: 25000}}} {
		if a, e := argument.Angle(c.k, c.tick); a != c.want || e != api.OK {
			t.Errorf("Angle(%d, %d): %v, %v; not %v", c.k, c.tick, a, e, c.want)
		}
	}
	for k := range angles() {
		for _, tick := range someTicks() {
			n, _ := argument.Units(k, tick)
			d := common(n, circle)
			a, e := argument.Angle(k, tick)
			if a != (api.Turn{Part: n / d, Whole: circle / d}) || e != api.OK || turn.Check(a) != api.OK {
				t.Fatalf("Angle(%d, %d): %v, %v; units %d", k, tick, a, e, n)
			}
		}
	}
}

// P10.1
func TestSpeed(t *testing.T) {
	for k, want := range []api.Turn{{Part: 144920521, Whole: circle}, {Part: 366011, Whole: 240000000}, {Part: 205343, Whole: 1800000000}, {Part: 23209, Whole: 1800000000}, {Part: 1379, Whole: 225000000}, {Part: 1, Whole: 180000000}} {
		if s, e := argument.Speed(k); s != want || e != api.OK {
			t.Errorf("Speed(%d): %v, %v; not %v", k, s, e, want)
		}
	}
}

// P10.1
func TestAll(t *testing.T) {
	for _, tick := range someTicks() {
		l, e := argument.All(tick)
		if len(l) != 6 || e != api.OK {
			t.Fatalf("All(%d): %v, %v", tick, l, e)
		}
		for k, n := range l {
			if want, _ := argument.Units(k, tick); n != want {
				t.Fatalf("All(%d): %d at %d, not %d", tick, n, k, want)
			}
		}
	}
}

// P10.1, rule 2: neither an angle that there is not nor a tick that there is not is told of, and nothing stands beside the error.
func TestRefused(t *testing.T) {
	for _, k := range append(noAngles(), 0, 5) {
		for _, tick := range append(noTicks(), 0, top) {
			if k >= 0 && k <= 5 && tick >= 0 && tick <= top {
				continue
			}
			if n, e := argument.Units(k, tick); n != 0 || e != api.ErrArg {
				t.Errorf("Units(%d, %d): %d, %v", k, tick, n, e)
			}
			if a, e := argument.Angle(k, tick); a != (api.Turn{}) || e != api.ErrArg {
				t.Errorf("Angle(%d, %d): %v, %v", k, tick, a, e)
			}
		}
	}
	for _, k := range noAngles() {
		if s, e := argument.Speed(k); s != (api.Turn{}) || e != api.ErrArg {
			t.Errorf("Speed(%d): %v, %v", k, s, e)
		}
	}
	for _, tick := range noTicks() {
		if l, e := argument.All(tick); len(l) != 0 || e != api.ErrArg {
			t.Errorf("All(%d): %v, %v", tick, l, e)
		}
	}
}

// Rule 4: two answers share no memory, their spare room neither.
func TestAllIsNew(t *testing.T) {
	want := []int64{31648000, 2770247000, 2801895000, 3343853000, 1008432000, 2812209000}
	l, _ := argument.All(0)
	k, _ := argument.All(0)
	l = l[:cap(l)]
	for i := range l {
		l[i] = -1
	}
	again, _ := argument.All(0)
	if !slices.Equal(k, want) || !slices.Equal(again, want) {
		t.Errorf("changed with another answer: %v, %v", k, again)
	}
}

// P10.3: from a tick to the next by the Speed, at each tick that has a next one.
func TestGoesOn(t *testing.T) {
	for k, a := range angles() {
		at, _ := argument.Units(k, 0)
		for tick := 1; tick <= top; tick++ {
			n, e := argument.Units(k, tick)
			if n != (at+a.step)%circle || n < 0 || e != api.OK {
				t.Fatalf("Units(%d, %d): %d, %v, behind %d", k, tick, n, e, at)
			}
			at = n
		}
	}
}

// P10.3: and so as turns, by turn's own sum.
func TestAngleGoesOn(t *testing.T) {
	for k := range angles() {
		speed, _ := argument.Speed(k)
		for _, tick := range someTicks() {
			if tick == top {
				continue
			}
			at, _ := argument.Angle(k, tick)
			want, e := turn.Add(at, speed)
			if e != api.OK {
				t.Fatalf("%v and %v: %v", at, speed, e)
			}
			if a, e := argument.Angle(k, tick+1); a != want || e != api.OK {
				t.Fatalf("Angle(%d, %d): %v, %v; not %v", k, tick+1, a, e, want)
			}
		}
	}
}

// P10.3: lunar time is the hour's fifteen degrees a tick, less the moon, and the sun.
func TestLunarTime(t *testing.T) {
	for tick := range top + 1 {
		l, e := argument.All(tick)
		if e != api.OK {
			t.Fatalf("All(%d): %v", tick, e)
		}
		if off := (150000000*int64(tick) - l[1] + l[2] - l[0]) % circle; off != 0 {
			t.Fatalf("at %d: off by %d", tick, off)
		}
	}
}

package turn_test

import (
	"math"
	"testing"

	"slackwater/api"
	"slackwater/turn"
)

// P8.1
func TestCheck(t *testing.T) {
	for _, a := range edges() {
		if e := turn.Check(a); e != api.OK {
			t.Errorf("Check(%v): %v", a, e)
		}
	}
	for _, a := range wrong() {
		if e := turn.Check(a); e != api.ErrTurn {
			t.Errorf("Check(%v): %v", a, e)
		}
	}
}

// P8.1: which of all small ones may be, by looking for a divisor.
func TestCheckOfSmallOnes(t *testing.T) {
	for whole := int64(-3); whole <= 60; whole++ {
		for part := int64(-3); part <= 63; part++ {
			want := api.OK
			if whole < 1 || part < 0 || part >= whole {
				want = api.ErrTurn
			}
			for d := int64(2); d <= whole; d++ {
				if part%d == 0 && whole%d == 0 {
					want = api.ErrTurn
				}
			}
			if e := turn.Check(at(part, whole)); e != want {
				t.Errorf("Check(%d/%d): %v", part, whole, e)
			}
		}
	}
}

// P8.1: each call refuses turns that may not be, at either place, ahead of ErrLong.
func TestWrongTurns(t *testing.T) {
	none := func(name string, a api.Turn, e api.Errno) {
		t.Helper()
		if e != api.ErrTurn || a != (api.Turn{}) {
			t.Errorf("%s: %v, %v", name, a, e)
		}
	}
	for _, a := range wrong() {
		for _, b := range append(wrong(), edges()...) {
			for _, c := range [][2]api.Turn{{a, b}, {b, a}} {
				sum, e := turn.Add(c[0], c[1])
				none("Add", sum, e)
				rest, e := turn.Sub(c[0], c[1])
				none("Sub", rest, e)
				if n, e := turn.Compare(c[0], c[1]); e != api.ErrTurn || n != 0 {
					t.Errorf("Compare of %v: %d, %v", c, n, e)
				}
			}
		}
		back, e := turn.Neg(a)
		none("Neg", back, e)
		for _, n := range []int32{0, 1, -1, 7, math.MaxInt32, math.MinInt32} {
			many, e := turn.Times(a, n)
			none("Times", many, e)
		}
		if z, e := turn.Root(a); e != api.ErrTurn || math.Float64bits(real(z))|math.Float64bits(imag(z)) != 0 {
			t.Errorf("Root(%v): %v, %v", a, z, e)
		}
		if s, e := turn.Print(a); e != api.ErrTurn || s != "" {
			t.Errorf("Print(%v): %q, %v", a, s, e)
		}
	}
}

// P8.2
func TestOf(t *testing.T) {
	const least, most = math.MinInt64, math.MaxInt64
	for _, c := range []struct {
		part, whole int64
		want        api.Turn
	}{
		{3, 12, at(1, 4)}, {-1, 4, at(3, 4)}, {8, 4, at(0, 1)}, {0, 1, at(0, 1)}, {0, 7, at(0, 1)}, {-8, 4, at(0, 1)}, {5, 1, at(0, 1)}, {9, 4, at(1, 4)}, {-9, 4, at(3, 4)}, {-10, 4, at(1, 2)}, {1, 3, at(1, 3)},
		{1, top, at(1, top)}, {-1, top, at(top-1, top)}, {top, top, at(0, 1)}, {2, top, at(1, top/2)}, {top + 1, top, at(1, top)}, {-1, top - 1, at(top-2, top-1)}, {top, top - 1, at(1, top-1)}, {0, top, at(0, 1)},
		{most, top, at(top-1, top)}, {least, top, at(0, 1)}, {least + 1, top, at(1, top)}, {most, 1, at(0, 1)}, {least, 1, at(0, 1)}, {most, 10, at(7, 10)}, {least, 10, at(1, 5)}, {least, 3, at(1, 3)}, {most, 3, at(1, 3)}, {least, top - 1, at(2147483647, top-1)},
	} {
		if a, e := turn.Of(c.part, c.whole); a != c.want || e != api.OK {
			t.Errorf("Of(%d, %d): %v, %v", c.part, c.whole, a, e)
		}
	}
}

// P8.2
func TestOfRefuses(t *testing.T) {
	const least, most = math.MinInt64, math.MaxInt64
	for _, part := range []int64{0, 1, -1, 4, top, least, most} {
		for whole, want := range map[int64]api.Errno{0: api.ErrZero, -1: api.ErrArg, -2: api.ErrArg, -top: api.ErrArg, least: api.ErrArg, top + 1: api.ErrArg, 2 * top: api.ErrArg, most: api.ErrArg} {
			if a, e := turn.Of(part, whole); e != want || a != (api.Turn{}) {
				t.Errorf("Of(%d, %d): %v, %v", part, whole, a, e)
			}
		}
	}
}

// P8.2: the turn is part over whole but for whole turns: both sides multiplied out, in small numbers.
func TestOfOfSmallOnes(t *testing.T) {
	for whole := int64(1); whole <= 40; whole++ {
		for part := int64(-130); part <= 130; part++ {
			a := of(t, part, whole)
			if (part*a.Whole-a.Part*whole)%(whole*a.Whole) != 0 {
				t.Errorf("Of(%d, %d): %v", part, whole, a)
			}
		}
	}
}

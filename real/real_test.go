package real_test

import (
	"math"
	"slices"
	"strconv"
	"strings"
	"testing"

	"slackwater/api"
	"slackwater/ratio"
	"slackwater/real"
)

// P6.1
func TestExact(t *testing.T) {
	for _, c := range []struct {
		x    float64
		want api.Ratio
	}{
		{0, q(0, 1)}, {math.Copysign(0, -1), q(0, 1)}, {0.5, q(1, 2)}, {-3, q(-3, 1)}, {1, q(1, 1)}, {-0.75, q(-3, 4)}, {6, q(6, 1)}, {0.1, q(3602879701896397, 1<<55)}, {1<<53 - 1, q(1<<53-1, 1)}, {-0x1p62, q(-1<<62, 1)}, {3 << 31, q(3<<31, 1)},
		{least, power(-1074)}, {-least, opposite(power(-1074))}, {0x1p-1022, power(-1022)}, {0x1p1023, power(1023)}, {0x1p-32, power(-32)}, {0x1p32, power(32)}, {0x1p31, power(31)}, {0x1p64, power(64)},
		{3 * least, times(t, 3, -1074)}, {0x1p-1022 - least, times(t, 1<<52-1, -1074)}, {0x1p-1022 + least, times(t, 1<<52+1, -1074)}, {greatest, times(t, 1<<53-1, 971)}, {-greatest, times(t, 1-1<<53, 971)},
	} {
		if r, e := real.Exact(c.x); e != api.OK || !same(r, c.want) {
			t.Errorf("Exact(%v): %v, %s", c.x, e, text(r))
		}
	}
	for _, x := range endless() {
		if r, e := real.Exact(x); e != api.ErrNumber || !nothing(r) {
			t.Errorf("Exact(%v): %v, %s", x, e, text(r))
		}
	}
}

// P6.1: a float is its 53 bits times a power of 2, as another way of taking it apart tells them.
func TestExactOfManyFloats(t *testing.T) {
	d := dice(61)
	for range 2000 {
		x := d.float()
		part, k := math.Frexp(x)
		if r := exact(t, x); !same(r, times(t, int64(math.Ldexp(part, 53)), k-53)) {
			t.Errorf("Exact(%v): %s", x, text(r))
		}
	}
}

// P6.1
func TestNearest(t *testing.T) {
	for _, c := range []struct {
		r    api.Ratio
		want float64
	}{
		{q(0, 1), 0}, {q(1, 1), 1}, {q(-7, 4), -1.75}, {q(1, 3), math.Float64frombits(0x3FD5555555555555)}, {q(-1, 3), -math.Float64frombits(0x3FD5555555555555)}, {q(2, 3), 2 / 3.0}, {q(-22, 7), -22 / 7.0}, {q(1, 10), 0.1},
		{q(1<<53-1, 1), 1<<53 - 1}, {q(1<<53, 1), 1 << 53}, {q(1<<53+1, 1), 1 << 53}, {q(1<<53+2, 1), 1<<53 + 2}, {q(1<<53+3, 1), 1<<53 + 4}, {q(-1<<53-1, 1), -1 << 53}, {q(-1<<53-3, 1), -1<<53 - 4},
		{q(1<<54+1, 2), 1 << 53}, {q(1<<54+3, 2), 1<<53 + 2}, {q(1<<54-1, 2), 1 << 53}, {q(1<<54-3, 2), 1<<53 - 2}, {q(1<<54-1, 1), 1 << 54}, {q(1<<62+1, 3), (1<<62 + 1) / 3.0},
		{q(math.MaxInt64, 1), 0x1p63}, {q(math.MinInt64+1, 1), -0x1p63}, {q(1<<54-1, 1<<62), 0x1p-8},
	} {
		if x, e := real.Nearest(c.r); e != api.OK || x != c.want {
			t.Errorf("Nearest(%s): %v, %v, not %v", text(c.r), e, x, c.want)
		}
	}
}

// P6.1: below the floats' full 53 bits, and at the least one.
func TestNearestOfTheLeast(t *testing.T) {
	for _, c := range []struct {
		n    int64
		k    int
		want float64
	}{
		{1, -1074, least}, {1, -1075, 0}, {-1, -1075, 0}, {1, -1076, 0}, {-1, -1076, 0}, {-1, -60000, 0}, {1, -65535, 0}, {3, -1076, least}, {-3, -1076, -least}, {3, -1075, 2 * least}, {5, -1076, least}, {5, -1075, 2 * least}, {-7, -1075, -4 * least},
		{1<<53 + 1, -1128, least}, {-1<<53 - 1, -1128, -least}, {1<<53 - 1, -1128, 0}, {1 - 1<<53, -1128, 0},
		{1<<53 - 1, -1075, 0x1p-1022}, {1<<54 - 1, -1076, 0x1p-1022}, {1<<53 - 3, -1075, 0x1p-1022 - 2*least}, {1<<53 + 1, -1075, 0x1p-1022}, {1<<53 + 3, -1075, 0x1p-1022 + 2*least},
		{1<<54 - 1, -1075, 0x1p-1021}, {1<<54 + 1, -1075, 0x1p-1021}, {1<<54 + 2, -1075, 0x1p-1021}, {1<<54 + 3, -1075, 0x1p-1021 + 2*least}, {1<<54 + 6, -1075, 0x1p-1021 + 4*least},
	} {
		if x, e := real.Nearest(times(t, c.n, c.k)); e != api.OK || x != c.want || x == 0 && !bare(x) {
			t.Errorf("Nearest(%d times 2^%d): %v, %v, not %v", c.n, c.k, e, x, c.want)
		}
	}
}

// P6.1: from 2^1024 less 2^970 on there is none.
func TestNearestOfTheGreatest(t *testing.T) {
	edge := less(t, power(1024), power(970))
	for _, r := range []api.Ratio{edge, plus(t, edge, power(-1074)), plus(t, edge, q(1, 3)), power(1024), plus(t, power(1024), power(970)), times(t, 3, 1023), power(1025), power(1026), power(65535), {Num: full(2048, 5), Den: list(1)}, {Num: full(2048, 7), Den: list(4)}} {
		for _, r := range []api.Ratio{r, opposite(r)} {
			if x, e := real.Nearest(r); e != api.ErrOver || !bare(x) {
				t.Errorf("Nearest(%s): %v, %v", text(r), e, x)
			}
		}
	}
	for _, r := range []api.Ratio{less(t, edge, power(-1074)), less(t, edge, power(-60000)), less(t, edge, q(1, 3)), less(t, power(1024), power(971)), less(t, edge, power(970)), less(t, edge, power(969))} {
		x, e := real.Nearest(r)
		y, f := real.Nearest(opposite(r))
		if e != api.OK || f != api.OK || x != greatest || y != -greatest {
			t.Errorf("Nearest(%s): %v, %v; %v, %v", text(r), e, x, f, y)
		}
	}
	if x, e := real.Nearest(less(t, edge, power(971))); e != api.OK || x != greatest-0x1p971 {
		t.Errorf("Nearest: %v, %v", e, x)
	}
}

// P6.1: a fraction that is a hair beside the middle of two floats goes to its own side, however long it is.
func TestNearestBesideTheMiddle(t *testing.T) {
	for _, x := range []float64{1, 1.5, 1 + 0x1p-52, 3, 0.1, 1e300, 1e-300, 0x1p-1022, 0x1p-1030, 5 * least, 4 * least, least, 0x1p1023, 2 - 0x1p-52} {
		y := float(t)(real.Next(x))
		middle := must(t)(ratio.Mul(plus(t, exact(t, x), exact(t, y)), q(1, 2)))
		even := x
		if math.Float64bits(x)%2 == 1 {
			even = y
		}
		for _, k := range []int{-1080, -3000, -60000} {
			for _, c := range []struct {
				r    api.Ratio
				want float64
			}{{middle, even}, {less(t, middle, power(k)), x}, {plus(t, middle, power(k)), y}, {less(t, middle, times(t, 1, k)), x}} {
				near, e := real.Nearest(c.r)
				far, f := real.Nearest(opposite(c.r))
				if e != api.OK || f != api.OK || near != c.want || far != -c.want {
					t.Errorf("beside %v and %v, by 2^%d: %v, %v, %v, %v", x, y, k, e, near, f, far)
				}
			}
		}
	}
}

// P6.1: a number's digits are read to the nearest float by the library, too.
func TestNearestAsDigitsAreRead(t *testing.T) {
	d := dice(62)
	for range 1500 {
		digits, k := strconv.Itoa(1+d.below(9)), d.below(700)
		for range d.below(40) {
			digits += strconv.Itoa(d.below(10))
		}
		r := must(t)(ratio.Parse(digits))
		ten := must(t)(ratio.Parse("1" + strings.Repeat("0", k)))
		scale := "e" + strconv.Itoa(k)
		if d.below(2) == 0 {
			r, scale = must(t)(ratio.Quo(r, ten)), "e-"+strconv.Itoa(k)
		} else {
			r = must(t)(ratio.Mul(r, ten))
		}
		want, err := strconv.ParseFloat(digits+scale, 64)
		x, e := real.Nearest(r)
		if err != nil && (e != api.ErrOver || !bare(x)) || err == nil && (e != api.OK || x != want) {
			t.Errorf("Nearest(%s): %v, %v, not %v", digits+scale, e, x, want)
		}
	}
}

// P6.1: fractions as long as may be, of which no part can be doubled within 2,048 words.
func TestNearestOfTheLongest(t *testing.T) {
	ones := full(2048, math.MaxUint32)
	even := slices.Clone(ones)
	even[0]--
	one := append(full(2047, 0), 1<<31)
	above, below := slices.Clone(one), append(full(2046, math.MaxUint32), 1<<10-1, 1<<31)
	above[0], above[2046] = 1, 1<<10
	for _, c := range []struct {
		num, den []uint32
		want     float64
	}{
		{even, ones, 1}, {ones, even, 1}, {ones, append(full(2047, 0), 1), 0x1p32}, {append(full(2047, 0), 1), ones, 0x1p-32}, {full(2016, math.MaxUint32), append(full(2047, 0), 1), 0x1p-992},
		{append([]uint32{1}, full(2047, 1<<31)...), one, 1 + 0x1p-32}, {above, one, 1 + 0x1p-52}, {below, one, 1}, {one, above, 1 - 0x1p-53}, {one, ones, 0.5},
	} {
		r := must(t)(api.Ratio{Num: c.num, Den: c.den}, api.OK)
		x, e := real.Nearest(r)
		y, f := real.Nearest(opposite(r))
		if e != api.OK || f != api.OK || x != c.want || y != -c.want {
			t.Errorf("Nearest of %d over %d words: %v, %v, %v, %v, not %v", len(c.num), len(c.den), e, x, f, y, c.want)
		}
	}
}

// P6.1, P6.2: what may not be is refused, behind what is not finite.
func TestWrongFractionsAreRefused(t *testing.T) {
	for name, c := range wrong() {
		if x, e := real.Nearest(c.a); e != c.want || !bare(x) {
			t.Errorf("Nearest, %s: %v, %v", name, e, x)
		}
		for _, x := range []float64{0, 1, -greatest, least} {
			if order, e := real.Compare(x, c.a); e != c.want || order != 0 {
				t.Errorf("Compare(%v), %s: %v, %v", x, name, e, order)
			}
			for _, bound := range []float64{1, 0, -1, greatest} {
				if in, e := real.Within(x, c.a, bound); e != c.want || in {
					t.Errorf("Within(%v, %v), %s: %v, %v", x, bound, name, e, in)
				}
			}
		}
		for _, x := range endless() {
			if order, e := real.Compare(x, c.a); e != api.ErrNumber || order != 0 {
				t.Errorf("Compare(%v), %s: %v, %v", x, name, e, order)
			}
			one, e := real.Within(x, c.a, 1)
			two, f := real.Within(1, c.a, x)
			if one || two || e != api.ErrNumber || f != api.ErrNumber {
				t.Errorf("Within(%v), %s: %v, %v", x, name, e, f)
			}
		}
	}
}

// P6.2
func TestCompare(t *testing.T) {
	for _, c := range []struct {
		x    float64
		r    api.Ratio
		want int
	}{
		{0, q(0, 1), 0}, {math.Copysign(0, -1), q(0, 1), 0}, {1, q(1, 2), 1}, {-1, q(1, 2), -1}, {-1, q(-1, 2), -1}, {0.5, q(1, 2), 0}, {-3, q(-3, 1), 0}, {1 / 3.0, q(1, 3), -1}, {-1 / 3.0, q(-1, 3), 1}, {0.1, q(1, 10), 1}, {0.3, q(3, 10), -1}, {2, q(-2, 1), 1},
		{least, power(-1074), 0}, {least, power(-1075), 1}, {0, power(-65535), -1}, {0, opposite(power(-65535)), 1}, {-least, opposite(power(-1075)), -1}, {greatest, power(1024), -1}, {-greatest, opposite(power(1024)), 1}, {greatest, times(t, 1<<53-1, 971), 0},
		{1, plus(t, q(1, 1), power(-60000)), -1}, {1, less(t, q(1, 1), power(-60000)), 1}, {greatest, api.Ratio{Num: full(2048, 3), Den: list(2)}, -1}, {1, api.Ratio{Neg: true, Num: full(2048, 3), Den: list(2)}, 1}, {least, api.Ratio{Num: list(2), Den: full(2048, 3)}, 1},
	} {
		if order, e := real.Compare(c.x, c.r); e != api.OK || order != c.want {
			t.Errorf("Compare(%v, %s): %v, %v, not %v", c.x, text(c.r), e, order, c.want)
		}
	}
	for _, x := range endless() {
		if order, e := real.Compare(x, q(1, 2)); e != api.ErrNumber || order != 0 {
			t.Errorf("Compare(%v): %v, %v", x, e, order)
		}
	}
}

// P6.2: of floats it is their own order.
func TestCompareOfFloats(t *testing.T) {
	for _, x := range edges() {
		for _, y := range edges() {
			want := 0
			switch {
			case x < y:
				want = -1
			case x > y:
				want = 1
			}
			if order, e := real.Compare(x, exact(t, y)); e != api.OK || order != want {
				t.Errorf("Compare(%v, %v): %v, %v", x, y, e, order)
			}
		}
	}
}

// P6.2
func TestWithin(t *testing.T) {
	sixth := float(t)(real.Nearest(q(1, 6)))
	for _, c := range []struct {
		x     float64
		r     api.Ratio
		bound float64
		want  bool
	}{
		{0.5, q(1, 3), 0.25, true}, {0.5, q(1, 3), 0.125, false}, {0.5, q(1, 2), -1, false}, {0.5, q(1, 2), -least, false}, {0.5, q(1, 2), 0, true}, {0.5, q(1, 2), math.Copysign(0, -1), true}, {0.5, q(1, 2), least, true},
		{0.5, q(1, 3), sixth, false}, {0.5, q(1, 3), math.Nextafter(sixth, 1), true}, {0.5, q(2, 3), sixth, false}, {0.5, q(2, 3), math.Nextafter(sixth, 1), true}, {-0.5, q(-1, 3), sixth, false}, {-0.5, q(-1, 3), math.Nextafter(sixth, 1), true},
		{1, q(3, 1), 2, true}, {3, q(1, 1), 2, true}, {1, q(3, 1), 2 - 0x1p-52, false}, {3, q(1, 1), 2 - 0x1p-52, false}, {-1, q(1, 1), 2, true}, {-1, q(1, 1), math.Nextafter(2, 1), false}, {1, q(-1, 1), 2, true}, {1, q(-1, 1), 1, false},
		{0, power(-1074), least, true}, {0, power(-1075), least, true}, {0, power(-1075), 0, false}, {least, power(-1075), 0, false}, {0, plus(t, power(-1074), power(-65535)), least, false}, {0, q(-1, 7), 1, true}, {0, q(0, 1), 0, true},
		{greatest, q(0, 1), greatest, true}, {greatest, opposite(power(-2000)), greatest, false}, {-greatest, times(t, 1<<53-1, 971), greatest, false}, {greatest, power(1024), 0x1p971, true}, {greatest, power(1024), 0x1p970, false}, {-greatest, power(-2000), greatest, false},
		{1, plus(t, q(2, 1), power(-60000)), 1, false}, {1, less(t, q(2, 1), power(-60000)), 1, true}, {1, plus(t, q(0, 1), power(-60000)), 1, true}, {1, opposite(power(-60000)), 1, false},
	} {
		if in, e := real.Within(c.x, c.r, c.bound); e != api.OK || in != c.want {
			t.Errorf("Within(%v, %s, %v): %v, %v, not %v", c.x, text(c.r), c.bound, e, in, c.want)
		}
	}
	for _, x := range endless() {
		one, e := real.Within(x, q(1, 2), 1)
		two, f := real.Within(1, q(1, 2), x)
		three, g := real.Within(x, q(1, 2), -1)
		if one || two || three || e != api.ErrNumber || f != api.ErrNumber || g != api.ErrNumber {
			t.Errorf("Within(%v): %v, %v, %v", x, e, f, g)
		}
	}
}

// P6.2: a fraction whose difference from the float is longer than fractions may be is held against it all the same.
func TestWithinOfTheLongest(t *testing.T) {
	under := full(2048, math.MaxUint32)
	over := slices.Clone(under)
	over[0]--
	r := api.Ratio{Num: over, Den: under}
	if _, e := ratio.Sub(exact(t, 0.25+0x1p-40), r); e != api.ErrLong {
		t.Fatalf("Sub answered %v", e)
	}
	for _, c := range []struct {
		x, bound float64
		want     bool
	}{{0.25 + 0x1p-40, 0.75, true}, {0.25 + 0x1p-40, 0.75 - 0x1p-39, false}, {1, least, true}, {1, 0, false}, {1 + 0x1p-52, 0x1p-52, false}, {1 + 0x1p-52, 0x1p-51, true}, {1 - 0x1p-53, 0x1p-53, true}, {0, 1, true}, {least, 1, true}, {-least, 1, false}, {0, 1 - 0x1p-53, false}, {5, -greatest, false}} {
		for _, sign := range []float64{1, -1} {
			r.Neg = sign < 0
			if in, e := real.Within(sign*c.x, r, c.bound); e != api.OK || in != c.want {
				t.Errorf("Within(%v, %v): %v, %v", sign*c.x, c.bound, e, in)
			}
		}
	}
}

// P6.2: as the sizes of exact differences tell.
func TestWithinAsDifferencesTell(t *testing.T) {
	d := dice(63)
	for range 3000 {
		r := d.fraction(t, 3)
		x := float(t)(real.Nearest(r)) + d.near(60, 3)
		bound := math.Abs(x-float(t)(real.Nearest(r))) + d.near(60, 1)*float64(d.below(2))
		want := order(t, size(less(t, exact(t, x), r)), exact(t, bound)) <= 0
		if in, e := real.Within(x, r, bound); e != api.OK || in != want {
			t.Errorf("Within(%v, %s, %v): %v, %v", x, text(r), bound, e, in)
		}
	}
}

package real_test

import (
	"math"
	"testing"

	"slackwater/api"
	"slackwater/ratio"
	"slackwater/real"
)

// P6.3
func TestNext(t *testing.T) {
	for _, c := range [][2]float64{
		{1, 1 + 0x1p-52}, {-1, -1 + 0x1p-53}, {0, least}, {math.Copysign(0, -1), least}, {least, 2 * least}, {-2 * least, -least}, {0x1p-1022 - least, 0x1p-1022}, {0x1p-1022, 0x1p-1022 + least}, {-0x1p-1022, -0x1p-1022 + least}, {-0x1p-1022 - least, -0x1p-1022},
		{2 - 0x1p-52, 2}, {2, 2 + 0x1p-51}, {-2, -2 + 0x1p-52}, {1<<53 - 1, 1 << 53}, {1 << 53, 1<<53 + 2}, {greatest - 0x1p971, greatest}, {-greatest, -greatest + 0x1p971}, {0.5 - 0x1p-54, 0.5},
	} {
		if x, e := real.Next(c[0]); e != api.OK || x != c[1] {
			t.Errorf("Next(%v): %v, %v, not %v", c[0], e, x, c[1])
		}
	}
	if x, e := real.Next(-least); e != api.OK || !bare(x) {
		t.Errorf("Next(%v): %v, %v", -least, e, x)
	}
	if x, e := real.Next(greatest); e != api.ErrOver || !bare(x) {
		t.Errorf("Next(%v): %v, %v", greatest, e, x)
	}
	for _, x := range endless() {
		if y, e := real.Next(x); e != api.ErrNumber || !bare(y) {
			t.Errorf("Next(%v): %v, %v", x, e, y)
		}
	}
}

// P6.3, P6.5: nothing lies between a float and the next one, as the library tells floats.
func TestNextIsDirectlyBehind(t *testing.T) {
	d := dice(64)
	for i := range 5000 {
		x := d.float()
		if i < len(edges()) {
			x = edges()[i]
		}
		if x == greatest {
			continue
		}
		if y, e := real.Next(x); e != api.OK || y != math.Nextafter(x, math.Inf(1)) || y <= x {
			t.Errorf("Next(%v): %v, %v", x, e, y)
		}
	}
}

// P6.3
func TestGap(t *testing.T) {
	for _, c := range [][2]float64{
		{1, 0x1p-52}, {-1, 0x1p-52}, {0, least}, {least, least}, {-least, least}, {math.Copysign(0, -1), least}, {1.5, 0x1p-52}, {2, 0x1p-51}, {2 - 0x1p-52, 0x1p-52}, {1 - 0x1p-53, 0x1p-53}, {1 << 52, 1}, {1<<53 - 1, 1}, {-1 << 53, 2},
		{0x1p-1022, least}, {0x1p-1022 - least, least}, {0x1p-1021 - least, least}, {0x1p-1021, 2 * least}, {-0x1p-970, 0x1p-1022}, {0x1p-971, 0x1p-1023}, {0x1p-969, 0x1p-1021}, {greatest, 0x1p971}, {-greatest, 0x1p971}, {0x1p1023, 0x1p971}, {0x1p1023 - 0x1p970, 0x1p970},
	} {
		if g, e := real.Gap(c[0]); e != api.OK || g != c[1] {
			t.Errorf("Gap(%v): %v, %v, not %v", c[0], e, g, c[1])
		}
	}
	for _, x := range endless() {
		if g, e := real.Gap(x); e != api.ErrNumber || !bare(g) {
			t.Errorf("Gap(%v): %v, %v", x, e, g)
		}
	}
}

// P6.3: the gap is what the next float is more than the size.
func TestGapGoesToTheNext(t *testing.T) {
	d := dice(65)
	for i := range 3000 {
		x := d.float()
		if i < len(edges()) {
			x = edges()[i]
		}
		if size := math.Abs(x); size < greatest {
			next := float(t)(real.Next(size))
			if g, e := real.Gap(x); e != api.OK || g != next-size || !same(exact(t, g), less(t, exact(t, next), exact(t, size))) {
				t.Errorf("Gap(%v): %v, %v", x, e, g)
			}
		}
	}
}

// P6.5: there and back.
func TestNearestOfExact(t *testing.T) {
	d := dice(66)
	for i := range 5000 {
		x := d.float()
		if i < len(edges()) {
			x = edges()[i]
		}
		y, e := real.Nearest(exact(t, x))
		if e != api.OK || y != x || x == 0 && !bare(y) {
			t.Errorf("Nearest(Exact(%v)): %v, %v", x, e, y)
		}
	}
}

// someFractions are such as lie among the floats and beside them.
func someFractions(t *testing.T, d *dice) (l []api.Ratio) {
	t.Helper()
	for range 300 {
		a, b := d.float(), d.float()
		r := must(t)(ratio.Mul(d.fraction(t, 3), power(d.below(2000)-1000)))
		third := must(t)(ratio.Mul(plus(t, exact(t, a), exact(t, a/3)), q(2, 3)))
		near := plus(t, exact(t, a), must(t)(ratio.Mul(exact(t, float(t)(real.Gap(a))), q(int64(d.below(9)), 8))))
		l = append(l, r, third, near, must(t)(ratio.Quo(exact(t, a), plus(t, size(exact(t, b)), power(-1100)))))
	}
	return l
}

// P6.5: no float is nearer, and none lies farther off than half a gap.
func TestNoFloatIsNearer(t *testing.T) {
	d := dice(67)
	for _, r := range someFractions(t, &d) {
		x, e := real.Nearest(r)
		if e == api.ErrOver {
			if order(t, size(r), less(t, power(1024), power(970))) < 0 {
				t.Errorf("Nearest(%s): none", text(r))
			}
			continue
		}
		off := size(less(t, exact(t, x), r))
		half := must(t)(ratio.Mul(exact(t, float(t)(real.Gap(x))), q(1, 2)))
		if order(t, off, half) > 0 {
			t.Errorf("Nearest(%s): %v is off by %s", text(r), x, text(off))
		}
		for _, y := range []float64{math.Nextafter(x, greatest), math.Nextafter(x, -greatest)} {
			c := order(t, off, size(less(t, exact(t, y), r)))
			if y != x && (c > 0 || c == 0 && math.Float64bits(x)%2 == 1) {
				t.Errorf("Nearest(%s): %v, though %v is as near", text(r), x, y)
			}
		}
		if in, e := real.Within(x, r, float(t)(real.Gap(x))); e != api.OK || !in {
			t.Errorf("Within(%v, %s): %v, %v", x, text(r), e, in)
		}
	}
}

// P6.5: of two fractions the lesser one's float is not above the other's.
func TestNearestKeepsTheOrder(t *testing.T) {
	d := dice(68)
	l := someFractions(t, &d)
	for i, a := range l {
		b := l[d.below(len(l))]
		if i%2 == 0 {
			b = plus(t, a, must(t)(ratio.Mul(a, power(-d.below(120)))))
		}
		x, e := real.Nearest(a)
		y, f := real.Nearest(b)
		if e == api.OK && f == api.OK && x != y && (x < y) != (order(t, a, b) < 0) {
			t.Errorf("Nearest(%s) and (%s): %v, %v", text(a), text(b), x, y)
		}
	}
}

// Rule 4: answers are new memory, and what is handed in stays as it is, its spare room too.
func TestNewMemory(t *testing.T) {
	for _, x := range []float64{0, 1, 0.5, -3, 0x1p100, 0x1p-100, greatest} {
		a, b := exact(t, x), exact(t, x)
		for _, words := range [][]uint32{a.Num, a.Den} {
			for i := range words[:cap(words)] {
				words[:cap(words)][i] = 77
			}
		}
		if !same(b, exact(t, x)) {
			t.Errorf("Exact(%v) shares its memory", x)
		}
		num, den := b.Num[:len(b.Num):cap(b.Num)], b.Den
		for i := range num[:cap(num)] {
			num[:cap(num)][i] = 5
		}
		if !same(api.Ratio{Den: den}, api.Ratio{Den: exact(t, x).Den}) {
			t.Errorf("Exact(%v): both lists share memory", x)
		}
	}
	num, den := append(full(3, 7), 9, 9)[:3], append(full(2, 4), 8, 8)[:2]
	r := must(t)(api.Ratio{Num: num, Den: den}, api.OK)
	float(t)(real.Nearest(r))
	if _, e := real.Compare(1, r); e != api.OK {
		t.Error(e)
	}
	if _, e := real.Within(1, r, 2); e != api.OK {
		t.Error(e)
	}
	if !same(api.Ratio{Num: num[:5], Den: den[:4]}, api.Ratio{Num: []uint32{7, 7, 7, 9, 9}, Den: []uint32{4, 4, 8, 8}}) {
		t.Error("what was handed in is changed")
	}
}

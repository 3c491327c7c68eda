package real_test

import (
	"math"
	"slices"
	"testing"

	"slackwater/api"
	"slackwater/ratio"
	"slackwater/real"
)

// P6.4
func TestTwoSum(t *testing.T) {
	for _, c := range [][4]float64{
		{1, 2, 3, 0}, {0, 0, 0, 0}, {1, -1, 0, 0}, {1, 0x1p-60, 1, 0x1p-60}, {0x1p-60, 1, 1, 0x1p-60}, {1, -0x1p-60, 1, -0x1p-60}, {0x1p53, 1, 0x1p53, 1}, {1, 0x1p53, 0x1p53, 1}, {0x1p53, 3, 0x1p53 + 4, -1}, {-0x1p53, -1, -0x1p53, -1},
		{0.1, 0.2, 0.30000000000000004, -0x1p-55}, {1e16, 1, 1e16, 1}, {least, 1, 1, least}, {least, -least, 0, 0}, {least, least, 2 * least, 0}, {greatest, -greatest, 0, 0}, {greatest, 1, greatest, 1}, {greatest, 0x1p969, greatest, 0x1p969},
		{-greatest, -0x1p969, -greatest, -0x1p969}, {0x1p1022, 0x1p1022, 0x1p1023, 0}, {0x1p1000, 0x1p-1000, 0x1p1000, 0x1p-1000},
	} {
		if s, e, f := real.TwoSum(c[0], c[1]); f != api.OK || s != c[2] || e != c[3] {
			t.Errorf("TwoSum(%v, %v): %v, %v, %v", c[0], c[1], f, s, e)
		}
	}
}

// steps are TwoSum's, each in a variable of its own that no compiler joins with another.
func steps(a, b float64) (s, e float64) {
	var l [6]float64
	l[0] = a + b
	l[1] = l[0] - a
	l[2] = l[0] - l[1]
	l[3] = a - l[2]
	l[4] = b - l[1]
	l[5] = l[3] + l[4]
	return l[0], l[5]
}

// P6.4: sums beyond the greatest float, and those whose error gets lost on the way there.
func TestTwoSumRefuses(t *testing.T) {
	for _, c := range [][2]float64{{0x1p1023, 0x1p1023}, {-0x1p1023, -0x1p1023}, {greatest, greatest}, {greatest, 0x1p970}, {-greatest, -0x1p970}} {
		if s, e, f := real.TwoSum(c[0], c[1]); f != api.ErrOver || !bare(s) || !bare(e) {
			t.Errorf("TwoSum(%v, %v): %v, %v, %v", c[0], c[1], f, s, e)
		}
	}
	for _, x := range endless() {
		for _, y := range append(endless(), 0, 1, greatest, -greatest) {
			s, e, f := real.TwoSum(x, y)
			u, v, g := real.TwoSum(y, x)
			if f != api.ErrNumber || g != api.ErrNumber || !bare(s) || !bare(e) || !bare(u) || !bare(v) {
				t.Errorf("TwoSum(%v, %v): %v, %v", x, y, f, g)
			}
		}
	}
}

// P6.4: the sum is finite, the steps behind it are not.
func TestTwoSumWhoseErrorIsNotFinite(t *testing.T) {
	met := 0
	for _, a := range []float64{-0x1p970, -0x1p970 * 1.5, -0x1.8p971, -0x1p969 - 0x1p917, -0x1p969, -0x1p971} {
		for _, b := range []float64{greatest, greatest - 0x1p971} {
			for _, sign := range []float64{1, -1} {
				a, b := sign*a, sign*b
				s, e := steps(a, b)
				told, lost, f := real.TwoSum(a, b)
				switch bad := math.IsInf(e, 0) || math.IsNaN(e); {
				case bad && (f != api.ErrOver || !bare(told) || !bare(lost)):
					t.Errorf("TwoSum(%v, %v): %v, %v, %v", a, b, f, told, lost)
				case !bad && (f != api.OK || told != s || lost != e):
					t.Errorf("TwoSum(%v, %v): %v, %v, %v", a, b, f, told, lost)
				case bad:
					met++
					if _, _, f := real.Sum([]float64{0, a, b, 0}); f != (api.Fault{Err: api.ErrOver, At: 2}) {
						t.Errorf("Sum(0, %v, %v, 0): %v", a, b, f)
					}
				}
			}
		}
	}
	if met == 0 {
		t.Error("no such sum was met")
	}
}

// P6.4, P6.5: the steps are the document's, and what they tell is exact up to 2^1000.
func TestTwoSumIsExact(t *testing.T) {
	d := dice(69)
	for range 4000 {
		a, b := d.near(1074, 1000), d.near(1074, 1000)
		if d.below(2) == 0 {
			_, k := math.Frexp(a)
			b = math.Ldexp(d.near(80, 3), k)
		}
		if d.below(10) == 0 {
			b = float(t)(real.Next(-a))
		}
		if math.Abs(a) > 0x1p1000 || math.Abs(b) > 0x1p1000 {
			continue
		}
		s, e, f := real.TwoSum(a, b)
		first, second := steps(a, b)
		if f != api.OK || s != first || e != second || s != a+b {
			t.Errorf("TwoSum(%v, %v): %v, %v, %v", a, b, f, s, e)
		}
		if !same(plus(t, exact(t, s), exact(t, e)), plus(t, exact(t, a), exact(t, b))) {
			t.Errorf("TwoSum(%v, %v): %v, %v are not exact", a, b, s, e)
		}
	}
	for _, a := range edges() {
		for _, b := range edges() {
			if s, e, _ := real.TwoSum(a, b); math.Abs(a) <= 0x1p1000 && math.Abs(b) <= 0x1p1000 && !same(plus(t, exact(t, s), exact(t, e)), plus(t, exact(t, a), exact(t, b))) {
				t.Errorf("TwoSum(%v, %v): %v, %v are not exact", a, b, s, e)
			}
		}
	}
}

// P6.4
func TestSum(t *testing.T) {
	for _, c := range []struct {
		l    []float64
		s, c float64
	}{
		{nil, 0, 0}, {[]float64{}, 0, 0}, {[]float64{3}, 3, 0}, {[]float64{-0x1p-1074}, -least, 0}, {[]float64{1, 0x1p-60, -1}, 0, 0x1p-60}, {[]float64{1, 0x1p-60, -1, 0x1p-70}, 0x1p-70, 0x1p-60}, {[]float64{0x1p53, 1, 1, 1}, 0x1p53, 3}, {[]float64{1, 1, 1, 0x1p53}, 0x1p53 + 4, -1},
		{[]float64{1, 0x1p-60, 0x1p-120}, 1, 0x1p-60}, {[]float64{1, 0x1p-60, 0x1p-112}, 1, 0x1p-60 + 0x1p-112}, {[]float64{greatest, -greatest, 1}, 1, 0}, {[]float64{greatest, 1, -greatest}, 0, 1},
	} {
		was := slices.Clone(c.l)
		if s, lost, f := real.Sum(c.l); f != (api.Fault{}) || s != c.s || lost != c.c {
			t.Errorf("Sum(%v): %v, %v, %v", c.l, f, s, lost)
		}
		if !slices.Equal(was, c.l) {
			t.Errorf("Sum has changed %v into %v", was, c.l)
		}
	}
}

// P6.4: what is not finite is told ahead of a sum that is too great, at its first place.
func TestSumRefuses(t *testing.T) {
	nan, inf := math.NaN(), math.Inf(1)
	for _, c := range []struct {
		l    []float64
		want api.Fault
	}{
		{[]float64{1, nan}, api.Fault{Err: api.ErrNumber, At: 1}}, {[]float64{nan}, api.Fault{Err: api.ErrNumber, At: 0}}, {[]float64{1, 2, -inf, nan, inf}, api.Fault{Err: api.ErrNumber, At: 2}}, {[]float64{0x1p1023, 0x1p1023, inf}, api.Fault{Err: api.ErrNumber, At: 2}}, {[]float64{greatest, greatest, 1, 1, nan}, api.Fault{Err: api.ErrNumber, At: 4}},
		{[]float64{0x1p1023, 0x1p1023}, api.Fault{Err: api.ErrOver, At: 1}}, {[]float64{0, -0x1p1023, 1, -0x1p1023, 0x1p1023, 3}, api.Fault{Err: api.ErrOver, At: 3}}, {[]float64{greatest, 0x1p969, 0x1p970}, api.Fault{Err: api.ErrOver, At: 2}},
	} {
		if s, lost, f := real.Sum(c.l); f != c.want || !bare(s) || !bare(lost) {
			t.Errorf("Sum(%v): %v, %v, %v", c.l, f, s, lost)
		}
	}
}

// P6.4, P6.5: the sum goes by TwoSum, and with the exact errors it is the exact one.
func TestSumGoesByTwoSum(t *testing.T) {
	d := dice(70)
	for range 150 {
		var s, c float64
		l := make([]float64, d.below(40))
		off, total := q(0, 1), q(0, 1)
		for i := range l {
			l[i] = d.near(70, 70)
			var e float64
			var f api.Errno
			if s, e, f = real.TwoSum(s, l[i]); f != api.OK {
				t.Fatal(f)
			}
			c += e
			off, total = plus(t, off, exact(t, e)), plus(t, total, exact(t, l[i]))
		}
		told, lost, f := real.Sum(l)
		if f != (api.Fault{}) || told != s || lost != c {
			t.Errorf("Sum(%v): %v, %v, %v", l, f, told, lost)
		}
		if !same(plus(t, exact(t, told), off), total) {
			t.Errorf("Sum(%v): %v is off by more than its errors", l, told)
		}
	}
}

// P1: no argument of whatever bits makes a call panic, and an answer hangs on it alone.
func TestCalm(t *testing.T) {
	l := append(edges(), endless()...)
	for _, x := range l {
		for _, y := range l {
			for _, r := range []api.Ratio{{}, q(1, 3), {Neg: true, Num: full(20, 9), Den: full(20, 5)}, {Num: []uint32{0}}} {
				a, e := real.Within(x, r, y)
				b, f := real.Within(x, r, y)
				if a != b || e != f || a && ratio.Check(r) != api.OK {
					t.Errorf("Within(%v, %v): %v, %v, %v, %v", x, y, a, e, b, f)
				}
			}
			real.TwoSum(x, y)
			real.Sum([]float64{x, y, x})
		}
	}
}

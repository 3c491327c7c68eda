package turn_test

import (
	"math"
	"testing"

	"slackwater/api"
	"slackwater/ratio"
	"slackwater/turn"
	"slackwater/whole"
)

// fraction is a turn as a fraction.
func fraction(t *testing.T, a api.Turn) api.Ratio {
	t.Helper()
	r, e := ratio.Small(a.Part, a.Whole)
	if e != api.OK {
		t.Fatal(e)
	}
	return r
}

// rest is what fractions tell of a sum without its whole turns: ErrLong, if its Den is above 2^32.
func rest(t *testing.T, r api.Ratio, e api.Errno) (api.Turn, api.Errno) {
	t.Helper()
	down, f := ratio.Floor(r)
	if e != api.OK || f != api.OK {
		t.Fatal(e, f)
	}
	turns, e := ratio.Make(down, whole.Of(1))
	if e != api.OK {
		t.Fatal(e)
	}
	if r, e = ratio.Sub(r, turns); e != api.OK {
		t.Fatal(e)
	}
	den, fits := whole.Int64(api.Whole{Words: r.Den})
	if !fits || den > top {
		return api.Turn{}, api.ErrLong
	}
	num, _ := whole.Int64(api.Whole{Words: r.Num})
	return at(num, den), api.OK
}

// prime is one of which a few times are still a Whole.
const prime = 1000000007

// P8.3
func TestAdd(t *testing.T) {
	for _, c := range []struct{ a, b, want api.Turn }{
		{at(1, 3), at(1, 6), at(1, 2)}, {at(3, 4), at(1, 2), at(1, 4)}, {at(0, 1), at(0, 1), at(0, 1)}, {at(0, 1), at(2, 5), at(2, 5)}, {at(1, 2), at(1, 2), at(0, 1)}, {at(1, 4), at(1, 4), at(1, 2)}, {at(5, 6), at(5, 6), at(2, 3)},
		{at(1, top), at(top-1, top), at(0, 1)}, {at(top-1, top), at(top-1, top), at(top/2-1, top/2)}, {at(1, top), at(1, top), at(1, top/2)}, {at(top-2, top-1), at(top-2, top-1), at(top-3, top-1)}, {at(1, top), at(1, 2), at(top/2+1, top)}, {at(0, 1), at(top-1, top), at(top-1, top)},
		{at(1, 65536), at(1, 65535), at(131071, 65535*65536)}, {at(1, 3*65536), at(5, 3*65536), at(1, 32768)},
		// Six times the prime is above 2^32, the sum's Whole, in lowest terms, is not.
		{at(1, 3*prime), at(333333335, 2*prime), at(1, 6)}, {at(3*prime-1, 3*prime), at(2*prime-333333335, 2*prime), at(5, 6)},
	} {
		if s, e := turn.Add(c.a, c.b); s != c.want || e != api.OK {
			t.Errorf("Add(%v, %v): %v, %v", c.a, c.b, s, e)
		}
	}
}

// P8.3
func TestSub(t *testing.T) {
	for _, c := range []struct{ a, b, want api.Turn }{
		{at(1, 4), at(1, 2), at(3, 4)}, {at(1, 2), at(1, 4), at(1, 4)}, {at(0, 1), at(0, 1), at(0, 1)}, {at(0, 1), at(2, 5), at(3, 5)}, {at(2, 5), at(0, 1), at(2, 5)}, {at(2, 5), at(2, 5), at(0, 1)}, {at(1, 3), at(1, 2), at(5, 6)}, {at(1, 2), at(1, 3), at(1, 6)},
		{at(1, top), at(top-1, top), at(1, top/2)}, {at(top-1, top), at(1, top), at(top/2-1, top/2)}, {at(0, 1), at(1, top), at(top-1, top)}, {at(top-1, top), at(top-1, top), at(0, 1)}, {at(0, 1), at(top-2, top-1), at(1, top-1)},
		{at(1, 3*prime), at(2*prime-333333335, 2*prime), at(1, 6)}, {at(333333335, 2*prime), at(3*prime-1, 3*prime), at(1, 6)},
	} {
		if s, e := turn.Sub(c.a, c.b); s != c.want || e != api.OK {
			t.Errorf("Sub(%v, %v): %v, %v", c.a, c.b, s, e)
		}
	}
}

// P8.3: a Whole that is just above 2^32, one that is as great as may be told by two turns, and the greatest one that is told.
func TestLong(t *testing.T) {
	for _, c := range [][2]api.Turn{
		{at(1, top-1), at(1, top)}, {at(top-2, top-1), at(top-1, top)}, {at(1, top), at(1, 3)}, {at(2, 3), at(1, top)}, {at(1, 65536), at(1, 65537)}, {at(65535, 65536), at(65536, 65537)}, {at(1, 641), at(1, 6700417)}, {at(1, prime), at(1, 5)}, {at(1, 3*prime), at(1, 2*prime)}, {at(1, 4294967291), at(1, 4294967279)},
	} {
		if s, e := turn.Add(c[0], c[1]); e != api.ErrLong || s != (api.Turn{}) {
			t.Errorf("Add(%v): %v, %v", c, s, e)
		}
		if s, e := turn.Sub(c[0], c[1]); e != api.ErrLong || s != (api.Turn{}) {
			t.Errorf("Sub(%v): %v, %v", c, s, e)
		}
	}
	for _, c := range [][2]api.Turn{{at(1, 65535), at(1, 65537)}, {at(1, top), at(1, 65536)}, {at(1, top/2), at(1, top)}, {at(1, top-1), at(2, 65537)}} {
		a, e := turn.Add(c[0], c[1])
		b, f := turn.Sub(c[0], c[1])
		if e != api.OK || f != api.OK || a.Whole < top-1 || b.Whole < top-1 {
			t.Errorf("%v: Add %v, %v; Sub %v, %v", c, a, e, b, f)
		}
	}
}

// P8.3
func TestNeg(t *testing.T) {
	for _, c := range []struct{ a, want api.Turn }{{at(0, 1), at(0, 1)}, {at(1, 2), at(1, 2)}, {at(1, 4), at(3, 4)}, {at(2, 5), at(3, 5)}, {at(1, top), at(top-1, top)}, {at(top-2, top-1), at(1, top-1)}} {
		if b, e := turn.Neg(c.a); b != c.want || e != api.OK {
			t.Errorf("Neg(%v): %v, %v", c.a, b, e)
		}
	}
}

// P8.3
func TestTimes(t *testing.T) {
	const least, most = math.MinInt32, math.MaxInt32
	for _, c := range []struct {
		a    api.Turn
		n    int32
		want api.Turn
	}{
		{at(3, 4), 3, at(1, 4)}, {at(3, 4), -1, at(1, 4)}, {at(1, 3), 3, at(0, 1)}, {at(3, 4), 0, at(0, 1)}, {at(3, 4), 1, at(3, 4)}, {at(0, 1), -7, at(0, 1)}, {at(1, 6), 2, at(1, 3)}, {at(1, 6), -2, at(2, 3)}, {at(5, 12), 10, at(1, 6)},
		{at(top-1, top), least, at(1, 2)}, {at(top-1, top), most, at(top/2+1, top)}, {at(1, top), least, at(1, 2)}, {at(1, top), most, at(top/2-1, top)}, {at(top-2, top-1), least, at(top/2, top-1)}, {at(top-2, top-1), most, at(top/2, top-1)}, {at(1, top-1), most, at(top/2-1, top-1)}, {at(0, 1), least, at(0, 1)},
		{at(1, 2147483647), most, at(0, 1)}, {at(1, top/2), least, at(0, 1)}, {at(2147483646, 2147483647), least, at(1, 2147483647)},
	} {
		if b, e := turn.Times(c.a, c.n); b != c.want || e != api.OK {
			t.Errorf("Times(%v, %d): %v, %v", c.a, c.n, b, e)
		}
	}
}

// P8.4
func TestCompare(t *testing.T) {
	for _, c := range []struct {
		a, b api.Turn
		want int
	}{
		{at(1, 3), at(2, 5), -1}, {at(2, 5), at(1, 3), 1}, {at(1, 3), at(1, 3), 0}, {at(0, 1), at(1, top), -1}, {at(0, 1), at(0, 1), 0}, {at(top-1, top), at(0, 1), 1},
		{at(top-1, top), at(top-2, top-1), 1}, {at(top-2, top-1), at(top-1, top), -1}, {at(1, top-1), at(1, top), 1}, {at(1, top), at(1, top-1), -1}, {at(top-1, top), at(top-1, top), 0}, {at(1, 2), at(top/2-1, top), 1}, {at(top/2+1, top), at(1, 2), 1},
	} {
		if n, e := turn.Compare(c.a, c.b); n != c.want || e != api.OK {
			t.Errorf("Compare(%v, %v): %d, %v", c.a, c.b, n, e)
		}
	}
}

// P8.3, P8.4: held against fractions of any length.
func TestAsFractionsTell(t *testing.T) {
	d := dice(81)
	for range 20000 {
		a, b, n := d.turn(t), d.turn(t), int32(d.next())
		x, y := fraction(t, a), fraction(t, b)
		hold := func(name string, s api.Turn, e api.Errno, want api.Turn, f api.Errno) {
			t.Helper()
			if s != want || e != f {
				t.Errorf("%s of %v, %v, %d: %v, %v, not %v, %v", name, a, b, n, s, e, want, f)
			}
		}
		r, e := ratio.Add(x, y)
		want, f := rest(t, r, e)
		s, e := turn.Add(a, b)
		hold("Add", s, e, want, f)
		r, e = ratio.Sub(x, y)
		want, f = rest(t, r, e)
		s, e = turn.Sub(a, b)
		hold("Sub", s, e, want, f)
		many, _ := ratio.Small(int64(n), 1)
		r, e = ratio.Mul(x, many)
		want, f = rest(t, r, e)
		s, e = turn.Times(a, n)
		hold("Times", s, e, want, f)
		c, e := turn.Compare(a, b)
		if m, _ := ratio.Compare(x, y); c != m || e != api.OK {
			t.Errorf("Compare(%v, %v): %d, %v", a, b, c, e)
		}
	}
}

// P8.6: Add in any order, Neg gives nought, Times is Add again and again.
func TestGroup(t *testing.T) {
	d := dice(82)
	nought := at(0, 1)
	for range 20000 {
		a, b, c := d.turn(t), d.turn(t), d.turn(t)
		ab, e := turn.Add(a, b)
		ba, f := turn.Add(b, a)
		if ab != ba || e != f {
			t.Errorf("%v and %v: %v, %v; the other way round %v, %v", a, b, ab, e, ba, f)
		}
		if bc, f := turn.Add(b, c); e == api.OK && f == api.OK {
			x, e := turn.Add(ab, c)
			y, f := turn.Add(a, bc)
			if e != f || x != y {
				t.Errorf("%v, %v and %v: %v, %v and %v, %v", a, b, c, x, e, y, f)
			}
		}
		if e == api.OK && must(t)(turn.Sub(ab, b)) != a {
			t.Errorf("%v and %v added, then taken off", a, b)
		}
		back := must(t)(turn.Neg(a))
		if must(t)(turn.Add(a, back)) != nought || must(t)(turn.Neg(back)) != a || must(t)(turn.Sub(nought, a)) != back || must(t)(turn.Times(a, -1)) != back || must(t)(turn.Add(a, nought)) != a || must(t)(turn.Sub(a, a)) != nought {
			t.Errorf("Neg(%v): %v", a, back)
		}
		up, down := nought, nought
		for n := range int32(12) {
			if must(t)(turn.Times(a, n)) != up || must(t)(turn.Times(a, -n)) != down {
				t.Errorf("Times(%v, %d), and back: not %v, %v", a, n, up, down)
			}
			up, down = must(t)(turn.Add(up, a)), must(t)(turn.Sub(down, a))
		}
	}
}

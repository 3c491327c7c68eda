package ratio_test

import (
	"cmp"
	"math"
	"slices"
	"strconv"
	"testing"

	"slackwater/api"
	"slackwater/ratio"
	"slackwater/whole"
)

// P3.1

func TestCheck(t *testing.T) {
	for name, c := range wrong() {
		if e := ratio.Check(c.a); e != c.want {
			t.Errorf("Check of %s: %v, not %v", name, e, c.want)
		}
	}
	for _, a := range append(smalls(),
		r(false, ints(), ints(1)), r(false, full(2048, 1<<32-1), ints(1)), r(true, ints(1), full(2048, 1<<32-1)), r(true, two(65535), full(2048, 1)), r(false, full(2048, 1), two(65535)),
		r(true, plus(two(65535), 1), plus(two(65535), 2)),
	) {
		if e := ratio.Check(a); e != api.OK {
			t.Errorf("Check of %d over %d words: %v", len(a.Num), len(a.Den), e)
		}
	}
}

func TestCheckOfSmallNumbers(t *testing.T) {
	for num := range uint64(50) {
		for den := range uint64(50) {
			want := api.ErrNormal
			if den > 0 && greatestDivisor(num, den) == 1 {
				want = api.OK
			}
			if e := ratio.Check(r(false, list(num), list(den))); e != want {
				t.Errorf("Check of %d over %d: %v", num, den, e)
			}
		}
	}
}

func TestMake(t *testing.T) {
	ok := must(t)
	for _, c := range []struct {
		num, den api.Whole
		want     api.Ratio
	}{
		{w(false, 6), w(true, 4), q(-3, 2)}, {w(true, 6), w(true, 4), q(3, 2)}, {w(true, 6), w(false, 4), q(-3, 2)}, {w(false, 6), w(false, 4), q(3, 2)},
		{w(false), w(true, 7), q(0, 1)}, {w(false), w(false, 1), q(0, 1)}, {w(false, 0, 0, 6), w(false, 0, 4), r(false, ints(1<<31, 1), ints(1))}, {w(false, 0, 6), w(false, 0, 0, 4), r(false, ints(3), ints(0, 2))},
		{w(false, full(2048, 7)...), w(true, full(2048, 7)...), q(-1, 1)}, {w(true, full(2048, 6)...), w(true, full(2048, 4)...), q(3, 2)},
		{w(true, full(2048, 7)...), w(false, 1), r(true, full(2048, 7), ints(1))}, {w(false, 1), w(true, full(2048, 7)...), r(true, ints(1), full(2048, 7))},
		{w(false, two(65535)...), w(false, full(2048, 3)...), r(false, two(65535), full(2048, 3))},
		{w(false), w(false, full(2048, 3)...), q(0, 1)},
	} {
		if got := ok(ratio.Make(c.num, c.den)); !same(got, c.want) {
			t.Errorf("Make of %d and %d words: Neg %v, %d over %d words", len(c.num.Words), len(c.den.Words), got.Neg, len(got.Num), len(got.Den))
		}
	}
}

func TestMakeRefuses(t *testing.T) {
	long, rough, sign, nought, one := w(false, full(2049, 1)...), w(true, 1, 0), w(true), w(false), w(false, 1)
	for i, c := range []struct {
		num, den api.Whole
		want     api.Errno
	}{
		{one, nought, api.ErrZero}, {nought, nought, api.ErrZero}, {w(true, full(2048, 1)...), nought, api.ErrZero},
		{long, one, api.ErrLong}, {rough, one, api.ErrNormal}, {sign, one, api.ErrNormal}, {one, long, api.ErrLong}, {one, rough, api.ErrNormal}, {one, sign, api.ErrNormal},
		{long, rough, api.ErrLong}, {rough, long, api.ErrNormal}, {sign, long, api.ErrNormal}, {nought, long, api.ErrLong},
		// ahead of ErrZero
		{long, nought, api.ErrLong}, {rough, nought, api.ErrNormal}, {sign, nought, api.ErrNormal}, {nought, sign, api.ErrNormal},
		{one, w(false, 0), api.ErrNormal}, {one, w(false, full(8193, 0)...), api.ErrLong},
	} {
		got, e := ratio.Make(c.num, c.den)
		refused(t, "Make, line "+strconv.Itoa(i), got, e, c.want)
	}
}

func TestSmall(t *testing.T) {
	ok := must(t)
	for _, c := range []struct {
		n, d int64
		want api.Ratio
	}{
		{6, -4, q(-3, 2)}, {0, -7, q(0, 1)}, {9, 3, q(3, 1)}, {-3, -9, q(1, 3)}, {math.MinInt64, math.MinInt64, q(1, 1)}, {math.MinInt64, 1, r(true, ints(0, 1<<31), ints(1))},
		{1, math.MinInt64, r(true, ints(1), ints(0, 1<<31))}, {math.MinInt64, -1, r(false, ints(0, 1<<31), ints(1))}, {math.MinInt64, 6, r(true, ints(0, 1<<30), ints(3))},
		{math.MaxInt64, math.MinInt64, r(true, ints(1<<32-1, 1<<31-1), ints(0, 1<<31))},
	} {
		if got := ok(ratio.Small(c.n, c.d)); !same(got, c.want) {
			t.Errorf("Small of %d and %d: %v", c.n, c.d, got)
		}
	}
	for _, n := range edges() {
		got, e := ratio.Small(n, 0)
		refused(t, "Small over 0", got, e, api.ErrZero)
		for _, d := range edges() {
			if d == 0 {
				continue
			}
			common := greatestDivisor(sizeOf(n), sizeOf(d))
			want := r(n != 0 && (n < 0) != (d < 0), list(sizeOf(n)/common), list(sizeOf(d)/common))
			if got := ok(ratio.Small(n, d)); !same(got, want) {
				t.Errorf("Small of %d and %d: %v", n, d, got)
			}
		}
	}
}

// P3.4

func TestWrongFractionsAreNotToldOf(t *testing.T) {
	for name, c := range wrong() {
		if s := ratio.Sign(c.a); s != 0 {
			t.Errorf("Sign of %s: %d", name, s)
		}
		if low, e := ratio.Floor(c.a); low.Neg || len(low.Words) != 0 || e != c.want {
			t.Errorf("Floor of %s: %d words, %v", name, len(low.Words), e)
		}
		if s, e := ratio.Print(c.a); s != "" || e != c.want {
			t.Errorf("Print of %s: %d bytes, %v", name, len(s), e)
		}
		for _, b := range []api.Ratio{q(0, 1), q(-1, 2), {}, r(false, ints(2), ints(4)), r(false, full(2049, 1), ints(1))} {
			if got, e := ratio.Compare(c.a, b); got != 0 || e != c.want {
				t.Errorf("Compare of %s: %d %v", name, got, e)
			}
		}
		for _, b := range []api.Ratio{q(0, 1), q(-1, 2), r(true, full(2048, 1), ints(1))} {
			if got, e := ratio.Compare(b, c.a); got != 0 || e != c.want {
				t.Errorf("Compare with %s: %d %v", name, got, e)
			}
		}
	}
}

func TestCompareAndSign(t *testing.T) {
	rising := []api.Ratio{
		r(true, full(2048, 1<<32-1), ints(1)), r(true, two(65535), ints(3)), q(-7, 2), q(-10, 3), q(-3, 1), q(-1, 2), q(-1, 3), r(true, ints(1), ints(0, 0, 1)), r(true, ints(1), full(2048, 1<<32-1)),
		q(0, 1), r(false, ints(1), full(2048, 1<<32-1)), r(false, ints(1), plus(full(2048, 1<<32-1), 1<<32-1)), r(false, ints(1), ints(0, 0, 1)), q(1, 3), q(1, 2),
		r(false, two(65535), plus(two(65535), 1)), q(1, 1), r(false, plus(two(65535), 1), two(65535)), q(3, 1), q(10, 3), q(7, 2),
		r(false, two(65535), ints(3)), r(false, plus(two(65535), 1), ints(2)), r(false, full(2048, 1<<32-1), ints(1)),
	}
	zero := 9
	for i, a := range rising {
		if s := ratio.Sign(a); s != cmp.Compare(i, zero) {
			t.Errorf("Sign at the place %d: %d", i, s)
		}
		for j, b := range rising {
			if c, e := ratio.Compare(a, b); c != cmp.Compare(i, j) || e != api.OK {
				t.Errorf("Compare of the places %d and %d: %d %v", i, j, c, e)
			}
		}
	}
}

func TestCompareOfSmallFractions(t *testing.T) {
	for a := int64(-9); a <= 9; a++ {
		for b := int64(1); b <= 5; b++ {
			for c := int64(-9); c <= 9; c++ {
				for d := int64(1); d <= 5; d++ {
					if got, e := ratio.Compare(q(a, b), q(c, d)); got != cmp.Compare(a*d, c*b) || e != api.OK {
						t.Errorf("Compare of %d/%d and %d/%d: %d %v", a, b, c, d, got, e)
					}
				}
			}
		}
	}
}

func TestFloor(t *testing.T) {
	for _, c := range []struct {
		a    api.Ratio
		want api.Whole
	}{
		{q(7, 2), w(false, 3)}, {q(-7, 2), w(true, 4)}, {q(-3, 1), w(true, 3)}, {q(3, 1), w(false, 3)}, {q(0, 1), w(false)}, {q(1, 3), w(false)}, {q(-1, 3), w(true, 1)},
		{q(-2, 3), w(true, 1)}, {q(2, 3), w(false)}, {q(-4, 3), w(true, 2)}, {r(true, ints(1), full(2048, 5)), w(true, 1)}, {r(false, ints(1), full(2048, 5)), w(false)},
		{r(true, full(2048, 1<<32-1), ints(1)), w(true, full(2048, 1<<32-1)...)}, {r(true, ints(1<<32-1, 1<<32-1, 1), ints(2)), w(true, 0, 0, 1)},
		{r(false, ints(1<<32-1, 1<<32-1, 1), ints(2)), w(false, 1<<32-1, 1<<32-1)},
	} {
		low, e := ratio.Floor(c.a)
		if low.Neg != c.want.Neg || !slices.Equal(low.Words, c.want.Words) || e != api.OK {
			t.Errorf("Floor of Neg %v, %d over %d words: %v %v", c.a.Neg, len(c.a.Num), len(c.a.Den), low, e)
		}
	}
}

func TestSame(t *testing.T) {
	unlike := []api.Ratio{
		{}, {Neg: true}, q(0, 1), r(true, nil, ints(1)), q(1, 2), q(-1, 2), q(2, 1), r(false, ints(2), ints(4)), r(false, ints(1, 0), ints(2)), r(false, ints(1), ints(2, 0)), r(false, ints(1, 2), nil),
		r(false, nil, ints(1, 2)), r(false, ints(0), nil), r(false, nil, ints(0)), r(false, full(2049, 0), nil), r(false, full(2050, 0), nil), r(false, full(9000, 1), full(9000, 1)), r(false, full(9000, 1), plus(full(9000, 1), 1)),
		r(false, plus(full(9000, 1), 1), full(9000, 1)),
	}
	for i, a := range unlike {
		for j, b := range unlike {
			if got := ratio.Same(a, b); got != (i == j) {
				t.Errorf("Same of the places %d and %d: %v", i, j, got)
			}
		}
		other := api.Ratio{Neg: a.Neg, Num: append([]uint32{}, a.Num...), Den: append([]uint32{}, a.Den...)}
		if !ratio.Same(a, other) {
			t.Errorf("Same of the place %d and its copy", i)
		}
	}
}

// P3.6

func TestCompareGoesWithTheDifference(t *testing.T) {
	ok := must(t)
	d := dice(4)
	for i := range 2000 {
		k := 1 + i%12
		a, b := d.fraction(t, k), d.fraction(t, k)
		if i%5 == 0 {
			// so near that but the lowest word tells them apart
			b = ok(ratio.Add(a, r(i%2 == 0, ints(1), two(32*k))))
		}
		c, e := ratio.Compare(a, b)
		back, _ := ratio.Compare(b, a)
		if e != api.OK || back != -c || c != ratio.Sign(ok(ratio.Sub(a, b))) || (c == 0) != ratio.Same(a, b) {
			t.Fatal("Compare", a, b, c, back, e)
		}
	}
}

func TestFloorIsNotAboveAndOneMoreIs(t *testing.T) {
	ok, okWhole := must(t), mustWhole(t)
	d := dice(5)
	for i := range 2000 {
		a := d.fraction(t, 1+i%12)
		if i%7 == 0 {
			a = ok(ratio.Make(d.number(20), whole.Of(int64(1+d.below(9)))))
		}
		low := okWhole(ratio.Floor(a))
		next := okWhole(whole.Add(low, whole.Of(1)))
		under, _ := ratio.Compare(ok(ratio.Make(low, whole.Of(1))), a)
		over, _ := ratio.Compare(ok(ratio.Make(next, whole.Of(1))), a)
		if under > 0 || over <= 0 || whole.Check(low) != api.OK {
			t.Fatal("Floor", a, low)
		}
	}
}

// Answers are new memory, and what is handed in stays as it is, its spare room too.

// roomy is a list in memory of its own with marked words behind it.
func roomy(words []uint32) []uint32 {
	return append(slices.Clone(words), 77, 78, 79)[:len(words)]
}

func stands(words, was []uint32) bool {
	return slices.Equal(words, was) && slices.Equal(words[len(was):len(was)+3], ints(77, 78, 79))
}

// marked is a fraction both of whose lists are so.
func marked(a api.Ratio) api.Ratio {
	return api.Ratio{Neg: a.Neg, Num: roomy(a.Num), Den: roomy(a.Den)}
}

func untouched(a, was api.Ratio) bool {
	return a.Neg == was.Neg && stands(a.Num, was.Num) && stands(a.Den, was.Den)
}

// scribble writes over a list and its spare room.
func scribble(words []uint32) {
	all := words[:cap(words)]
	for i := range all {
		all[i] = 12345
	}
}

// scribbled writes over an answer's lists one by one, and tells whether the other one stayed as it was.
func scribbled(a api.Ratio) bool {
	was := slices.Clone(a.Den)
	scribble(a.Num)
	stayed := slices.Equal(a.Den, was)
	num := slices.Clone(a.Num)
	scribble(a.Den)
	return stayed && slices.Equal(a.Num, num)
}

func TestAnswersAreNewMemory(t *testing.T) {
	for _, x := range smalls() {
		for call, f := range ofOne() {
			a := marked(x)
			got, _ := f(a)
			if !scribbled(got) || !untouched(a, x) {
				t.Errorf("%s of %v changes or hands out its argument, or its lists share memory", call, x)
			}
		}
		a := marked(x)
		low, _ := ratio.Floor(a)
		scribble(low.Words)
		_, _ = ratio.Print(a)
		_ = ratio.Sign(a)
		if !untouched(a, x) {
			t.Errorf("a call of %v changes or hands out its argument", x)
		}
		for _, y := range smalls() {
			for call, f := range ofTwo() {
				a, b := marked(x), marked(y)
				got, _ := f(a, b)
				if !scribbled(got) || !untouched(a, x) || !untouched(b, y) {
					t.Errorf("%s of %v and %v changes or hands out an argument, or its lists share memory", call, x, y)
				}
			}
			a, b := marked(x), marked(y)
			_, _ = ratio.Compare(a, b)
			_ = ratio.Same(a, b)
			if !untouched(a, x) || !untouched(b, y) {
				t.Errorf("Compare or Same of %v and %v changes an argument", x, y)
			}
		}
	}
}

func TestWhatIsMadeOrReadIsNewMemory(t *testing.T) {
	for _, words := range [][2][]uint32{{nil, ints(1)}, {ints(1), ints(1)}, {ints(3), ints(5)}, {ints(6), ints(4)}, {ints(1, 2, 3), ints(1)}, {ints(1, 2, 3), ints(7, 0, 0, 1)}} {
		num := api.Whole{Neg: len(words[0]) > 0, Words: roomy(words[0])}
		den := api.Whole{Words: roomy(words[1])}
		got, e := ratio.Make(num, den)
		if e != api.OK || !scribbled(got) || !stands(num.Words, words[0]) || !stands(den.Words, words[1]) {
			t.Errorf("Make of %v changes or hands out its arguments, or its lists share memory", words)
		}
	}
	for _, s := range []string{"0", "1", "-5", "1/2", "-340282366920938463463374607431768211457/4294967296"} {
		first, e := ratio.Parse(s)
		was := marked(first)
		if e != api.OK || !scribbled(first) {
			t.Errorf("Parse of %s: the lists share memory", s)
		}
		if second, e := ratio.Parse(s); e != api.OK || !same(second, was) {
			t.Errorf("Parse of %s again: %v %v", s, second, e)
		}
	}
	none, _ := ratio.Sum(nil)
	scribbled(none)
	if again, f := ratio.Sum(nil); !same(again, q(0, 1)) || f != (api.Fault{}) {
		t.Errorf("Sum of nothing again: %v %v", again, f)
	}
}

func TestOneFractionAsBothArguments(t *testing.T) {
	ok := must(t)
	is := r(true, ints(3, 4, 5), ints(0, 2))
	a := marked(is)
	for call, want := range map[string]api.Ratio{
		"Add": r(true, ints(3, 4, 5), ints(0, 1)), "Sub": q(0, 1), "Mul": r(false, ints(9, 24, 46, 40, 25), ints(0, 0, 4)), "Quo": q(1, 1), "Sum": r(true, ints(3, 4, 5), ints(0, 1)),
	} {
		if got := ok(ofTwo()[call](a, a)); !same(got, want) || !untouched(a, is) {
			t.Errorf("%s of a fraction and itself: %v", call, got)
		}
	}
	if c, e := ratio.Compare(a, a); c != 0 || e != api.OK || !untouched(a, is) {
		t.Errorf("Compare of a fraction and itself: %d %v", c, e)
	}
}

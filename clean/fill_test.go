package clean_test

import (
	"math"
	"testing"

	"slackwater/api"
	"slackwater/clean"
)

// P20.6
func TestFill(t *testing.T) {
	nan, inf := math.NaN(), math.Inf(1)
	for _, c := range []struct{ l, want []api.Sample }{
		{nil, nil}, {[]api.Sample{}, nil}, {[]api.Sample{s(3, nan)}, nil}, {[]api.Sample{s(3, 1)}, []api.Sample{s(3, 1)}},
		{[]api.Sample{s(1, 0), s(4, 3), s(9, 3)}, []api.Sample{s(1, 0), s(2, 1), s(3, 2), s(4, 3), s(9, 3)}},
		{[]api.Sample{s(1, 0), s(2, 3)}, []api.Sample{s(1, 0), s(2, 3)}},
		{[]api.Sample{s(1, 1), s(3, 4)}, []api.Sample{s(1, 1), s(2, 2.5), s(3, 4)}},
		{[]api.Sample{s(1, 4), s(5, 0)}, []api.Sample{s(1, 4), s(2, 3), s(3, 2), s(4, 1), s(5, 0)}},
		{[]api.Sample{s(1, 4), s(6, 0)}, []api.Sample{s(1, 4), s(6, 0)}},
		{[]api.Sample{s(0, 1), s(2, 1), s(top-2, 5), s(top, 6)}, []api.Sample{s(0, 1), s(1, 1), s(2, 1), s(top-2, 5), s(top-1, 5.5), s(top, 6)}},
		// What is no number leaves its tick to the gap around it.
		{[]api.Sample{s(1, 0), s(2, nan), s(3, 2)}, []api.Sample{s(1, 0), s(2, 1), s(3, 2)}},
		{[]api.Sample{s(1, 0), s(2, nan), s(3, inf), s(4, -inf), s(5, 4)}, []api.Sample{s(1, 0), s(2, 1), s(3, 2), s(4, 3), s(5, 4)}},
		{[]api.Sample{s(1, 0), s(2, nan), s(3, inf), s(4, -inf), s(5, nan), s(6, 5)}, []api.Sample{s(1, 0), s(6, 5)}},
		{[]api.Sample{s(1, 0), s(4, nan), s(6, 5)}, []api.Sample{s(1, 0), s(6, 5)}},
		// Nothing stands ahead of the first one, nor behind the last.
		{[]api.Sample{s(0, nan), s(2, 1), s(3, 5), s(4, nan)}, []api.Sample{s(2, 1), s(3, 5)}},
		// Heights that were there are told as they were.
		{[]api.Sample{s(1, minus()), s(2, 0), s(3, least), s(4, -greatest)}, []api.Sample{s(1, minus()), s(2, 0), s(3, least), s(4, -greatest)}},
		// Each step is rounded.
		{[]api.Sample{s(0, 1), s(2, 1+0x1p-52)}, []api.Sample{s(0, 1), s(1, 1), s(2, 1+0x1p-52)}},
		{[]api.Sample{s(0, 0), s(3, 1)}, []api.Sample{s(0, 0), s(1, 1.0/3), s(2, 2.0/3), s(3, 1)}},
		{[]api.Sample{s(0, 0), s(2, least)}, []api.Sample{s(0, 0), s(1, 0), s(2, least)}},
		{[]api.Sample{s(0, 0), s(2, 3*least)}, []api.Sample{s(0, 0), s(1, 2*least), s(2, 3*least)}},
		{[]api.Sample{s(0, 0), s(2, greatest)}, []api.Sample{s(0, 0), s(1, greatest/2), s(2, greatest)}},
		// The difference is beyond the floats, but nothing is put in.
		{[]api.Sample{s(0, -greatest), s(1, greatest), s(6, -greatest)}, []api.Sample{s(0, -greatest), s(1, greatest), s(6, -greatest)}},
	} {
		if l, e := clean.Fill(c.l); e != api.OK || !same(l, c.want) {
			t.Errorf("Fill(%v): %v, %v; not %v", c.l, l, e, c.want)
		}
	}
}

// P20.6
func TestFillRefused(t *testing.T) {
	nan := math.NaN()
	over := []api.Sample{s(0, -1e308), s(2, 1e308)}
	long := run(0, 4097, 1)
	for _, c := range []struct {
		key  string
		l    []api.Sample
		want api.Errno
	}{
		{"one tick twice", []api.Sample{s(2, 1), s(2, 1)}, api.ErrArg}, {"falling", []api.Sample{s(2, 1), s(1, 1)}, api.ErrArg}, {"one tick, no numbers", []api.Sample{s(2, nan), s(2, nan)}, api.ErrArg}, {"falling, no number", []api.Sample{s(2, 1), s(5, nan), s(3, 1)}, api.ErrArg}, {"one tick, one no number", []api.Sample{s(2, 1), s(2, nan)}, api.ErrArg},
		{"long", long, api.ErrLong}, {"long with no numbers", run(0, 4097, nan), api.ErrLong}, {"long and falling", append(run(0, 4096, 1), s(0, 1)), api.ErrLong}, {"long and no ticks", run(-1, 4097, 1), api.ErrLong}, {"long and at one tick", repeat(s(1, 1), 4097), api.ErrLong},
		{"over", over, api.ErrOver}, {"over, downward", []api.Sample{s(0, greatest), s(4, -greatest)}, api.ErrOver}, {"over by no number", []api.Sample{s(0, -1e308), s(1, nan), s(2, 1e308)}, api.ErrOver}, {"over in the middle", []api.Sample{s(0, 1), s(2, 1), s(5, -1e308), s(8, 1e308), s(9, 1)}, api.ErrOver},
		{"over and no tick", append(over, s(top+1, 1)), api.ErrArg}, {"over and falling", append(over, s(1, 1)), api.ErrArg},
	} {
		if l, e := clean.Fill(c.l); e != c.want || len(l) != 0 {
			t.Errorf("%s: %v, %d samples; not %v", c.key, e, len(l), c.want)
		}
	}
	for _, tick := range noTicks() {
		for _, x := range []float64{1, nan, math.Inf(-1)} {
			l := []api.Sample{s(tick, x), s(5, 1)}
			if tick > 5 {
				l = []api.Sample{s(5, 1), s(tick, x)}
			}
			if k, e := clean.Fill(l); e != api.ErrArg || len(k) != 0 {
				t.Errorf("Fill(%v): %v, %v", l, k, e)
			}
		}
	}
}

// apart is so many samples with step ticks from one to the next.
func apart(count, step int, height float64) (l []api.Sample) {
	for i := range count {
		l = append(l, s(i*step, height))
	}
	return l
}

// P20.6: 4,096 samples may come out, and no more; what is not finite goes ahead of that.
func TestFillOfMany(t *testing.T) {
	for _, c := range []struct {
		key   string
		l     []api.Sample
		e     api.Errno
		count int
	}{
		{"full", run(0, 4096, 1), api.OK, 4096},
		{"full, far apart", apart(4096, 5, 1), api.OK, 4096},
		{"full by gaps of 3", append(apart(1024, 4, 1), s(4093, 1), s(4094, 1), s(4095, 1)), api.OK, 4096},
		{"one too many by gaps of 3", apart(1025, 4, 1), api.ErrLong, 0},
		{"full by gaps of 1", append(apart(2048, 2, 1), s(4095, 1)), api.OK, 4096},
		{"one too many by gaps of 1", apart(2049, 2, 1), api.ErrLong, 0},
		{"one too many by one gap", append(run(0, 4095, 1), s(4096, 1)), api.ErrLong, 0},
		{"one put in, one no number", append(run(0, 4094, 1), s(4094, math.NaN()), s(4095, 1)), api.OK, 4096},
		{"as many as can be", apart(4096, 4, 1), api.ErrLong, 0},
		{"too many, and over at the end", append(apart(4094, 4, 1), s(20000, -1e308), s(20002, 1e308)), api.ErrOver, 0},
		{"too many, and over ahead", append([]api.Sample{s(0, 1e308), s(3, -1e308)}, apart(4000, 4, 1)[1:]...), api.ErrOver, 0},
	} {
		l, e := clean.Fill(c.l)
		if e != c.e || len(l) != c.count || !clean.Rising(l) {
			t.Errorf("%s: %v, %d samples", c.key, e, len(l))
		}
	}
}

// filledOf tells by its words what is told of a list, and whether all of it is finite.
func filledOf(l []api.Sample) (k []api.Sample, ok bool) {
	var ones []api.Sample
	for _, x := range l {
		if finite(x.Height) {
			ones = append(ones, x)
		}
	}
	for i, to := range ones {
		if i > 0 {
			from := ones[i-1]
			between := to.Tick - from.Tick - 1
			for x := from.Tick + 1; x < to.Tick && between <= 3; x++ {
				rise := less(to.Height, from.Height)
				if !finite(rise) {
					return nil, false
				}
				part := over(float64(x-from.Tick), float64(to.Tick-from.Tick))
				k = append(k, s(x, plus(from.Height, times(rise, part))))
			}
		}
		k = append(k, to)
	}
	return k, true
}

// P20.6, P20.7: thrown lists, by exact fractions.
func TestFillByFractions(t *testing.T) {
	d := dice(210)
	refused := 0
	for i := range 1500 {
		throw := []func() float64{d.plain, d.height, d.great}[i%3]
		l := d.rise(d.below(12), 1+d.below(6), throw)
		want, ok := filledOf(l)
		k, e := clean.Fill(l)
		if !ok {
			refused++
			if e != api.ErrOver || len(k) != 0 {
				t.Errorf("Fill(%v): %v, %v", l, k, e)
			}
			continue
		}
		if e != api.OK || !equal(k, want) {
			t.Fatalf("Fill(%v): %v, %v; not %v", l, k, e, want)
		}
		if again := filled(t, k); !same(again, k) {
			t.Errorf("Fill of %v, told again: %v", k, again)
		}
	}
	if refused < 20 || refused > 700 {
		t.Errorf("%d of 1,500 refused", refused)
	}
}

// P20.7: what is put in lies between its neighbours' heights, but for rounding.
func TestFillBetween(t *testing.T) {
	d := dice(211)
	for range 1000 {
		a, b, count := d.plain(), d.plain(), 1+d.below(3)
		l := filled(t, []api.Sample{s(10, a), s(11+count, b)})
		if len(l) != count+2 {
			t.Fatalf("%d samples from 10 to %d", len(l), 11+count)
		}
		rounding := math.Ldexp(max(math.Abs(a), math.Abs(b)), -50)
		for _, x := range l {
			if x.Height < min(a, b)-rounding || x.Height > max(a, b)+rounding {
				t.Errorf("between %v and %v: %v", a, b, x.Height)
			}
		}
	}
}

// P20.7: spikes taken out and gaps filled, the ticks are those that were there.
func TestSpikesOutAndFilled(t *testing.T) {
	l := heights(1, 2, 3, 40, 5, 6, math.NaN(), 8, 9, -70, 11, 12, 13)
	p, e := clean.Spikes(l, 2, 20)
	if e != api.OK {
		t.Fatal(e)
	}
	rest, e := clean.Without(l, p)
	if e != api.OK || len(rest) != 11 {
		t.Fatalf("%v without %v: %v, %v", l, p, rest, e)
	}
	if k := filled(t, rest); !same(k, heights(1, 2, 3, 4, 5, 6, 7, 8, 9, 10, 11, 12, 13)) {
		t.Errorf("filled: %v", k)
	}
}

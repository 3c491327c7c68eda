package clock_test

import (
	"math"
	"slices"
	"testing"

	"slackwater/api"
	"slackwater/clock"
)

// spans are such as may be, and such as may not.
func spans() []struct {
	a, b int
	want api.Errno
} {
	const least, most = math.MinInt, math.MaxInt
	return []struct {
		a, b int
		want api.Errno
	}{
		{0, 0, api.OK}, {0, 1, api.OK}, {5, 5, api.OK}, {0, 4096, api.OK}, {7, 4103, api.OK}, {top, top, api.OK}, {top, top + 1, api.OK}, {top + 1, top + 1, api.OK}, {top + 1 - 4096, top + 1, api.OK}, {top - 4096, top, api.OK},
		{0, 4097, api.ErrLong}, {7, 4104, api.ErrLong}, {0, top + 1, api.ErrLong}, {top - 4096, top + 1, api.ErrLong}, {1, top, api.ErrLong},
		{-1, 0, api.ErrArg}, {-1, -1, api.ErrArg}, {-1, 5000, api.ErrArg}, {-24, 24, api.ErrArg}, {3, 2, api.ErrArg}, {1, 0, api.ErrArg}, {top, top + 2, api.ErrArg}, {top + 1, top + 2, api.ErrArg}, {top + 2, top + 2, api.ErrArg}, {0, top + 2, api.ErrArg}, {top + 1, top, api.ErrArg}, {top + 2, top + 1, api.ErrArg}, {5000, 0, api.ErrArg}, {0, -1, api.ErrArg},
		{least, most, api.ErrArg}, {most, least, api.ErrArg}, {least, least, api.ErrArg}, {most, most, api.ErrArg}, {least, 0, api.ErrArg}, {0, least, api.ErrArg}, {0, most, api.ErrArg}, {most, 0, api.ErrArg}, {most - 5, most, api.ErrArg}, {least, least + 5, api.ErrArg}, {1 << 32, 1<<32 + 24, api.ErrArg},
	}
}

// P9.1
func TestSpan(t *testing.T) {
	for _, c := range spans() {
		if e := clock.Span(c.a, c.b); e != c.want {
			t.Errorf("Span(%d, %d): %v, not %v", c.a, c.b, e, c.want)
		}
	}
}

// P9.5: all ticks of a span that may be, none of another.
func TestTicks(t *testing.T) {
	for _, c := range spans() {
		var want []int
		if c.want == api.OK {
			for n := c.a; n < c.b; n++ {
				want = append(want, n)
			}
		}
		ticks := clock.Ticks(c.a, c.b)
		if ticks == nil {
			t.Fatalf("Ticks(%d, %d) is nil", c.a, c.b)
		}
		for range 2 {
			if l := slices.Collect(ticks); !slices.Equal(l, want) {
				t.Errorf("Ticks(%d, %d): %d ticks, not %d", c.a, c.b, len(l), len(want))
			}
		}
	}
}

// P9.5, rule 10: it may be stopped, gone over again, and gone over within itself.
func TestTicksStopped(t *testing.T) {
	ticks := clock.Ticks(10, 40)
	for stop := 10; stop < 40; stop++ {
		last := -1
		for n := range ticks {
			last = n
			if n == stop {
				break
			}
		}
		if last != stop {
			t.Errorf("stopped at %d, not at %d", last, stop)
		}
	}
	pairs := 0
	for n := range ticks {
		for k := range ticks {
			if k > n {
				break
			}
			pairs++
		}
	}
	if pairs != 30*31/2 {
		t.Errorf("%d pairs", pairs)
	}
}

// wholeDays are the days all of whose ticks stand in a list, by counting.
func wholeDays(ticks []int) (l []int) {
	count := map[int]int{}
	for _, n := range ticks {
		count[n/24]++
		if count[n/24] == 24 {
			l = append(l, n/24)
		}
	}
	return l
}

// P9.5
func TestDays(t *testing.T) {
	for _, c := range []struct {
		a, b int
		want []int
	}{{0, 24, []int{0}}, {0, 23, nil}, {1, 24, nil}, {1, 25, nil}, {1, 48, []int{1}}, {1, 49, []int{1}}, {1, 73, []int{1, 2}}, {24, 24, nil}, {24, 47, nil}, {24, 48, []int{1}}, {23, 48, []int{1}}, {25, 71, nil}, {25, 72, []int{2}}, {top - 64, top + 1, []int{43688, 43689}}, {top - 16, top + 1, nil}, {top + 1, top + 1, nil}} {
		if l := clock.Days(c.a, c.b); !slices.Equal(l, c.want) {
			t.Errorf("Days(%d, %d): %v", c.a, c.b, l)
		}
	}
	for _, c := range spans() {
		want := wholeDays(slices.Collect(clock.Ticks(c.a, c.b)))
		if l := clock.Days(c.a, c.b); !slices.Equal(l, want) {
			t.Errorf("Days(%d, %d): %v, not %v", c.a, c.b, l, want)
		}
	}
	for a := range 80 {
		for b := a; b < 200; b++ {
			if l, want := clock.Days(a, b), wholeDays(slices.Collect(clock.Ticks(a, b))); !slices.Equal(l, want) {
				t.Fatalf("Days(%d, %d): %v, not %v", a, b, l, want)
			}
		}
	}
}

// P9.5: 170 days are the most; a refused span has none, however many would be whole.
func TestDaysOfLongSpans(t *testing.T) {
	if l := clock.Days(0, 4096); len(l) != 170 || l[0] != 0 || l[169] != 169 {
		t.Errorf("%d days", len(l))
	}
	if l := clock.Days(0, 4097); len(l) != 0 {
		t.Errorf("%d days of a span that is too long", len(l))
	}
}

// Rule 4: two answers share no memory, their spare room neither.
func TestDaysAreNew(t *testing.T) {
	l, k := clock.Days(0, 240), clock.Days(0, 240)
	l = l[:cap(l)]
	for i := range l {
		l[i] = -1
	}
	if want := []int{0, 1, 2, 3, 4, 5, 6, 7, 8, 9}; !slices.Equal(k, want) || !slices.Equal(clock.Days(0, 240), want) {
		t.Errorf("changed with another answer: %v", k)
	}
}

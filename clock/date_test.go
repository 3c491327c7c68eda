package clock_test

import (
	"math"
	"testing"
	"time"

	"slackwater/api"
	"slackwater/clock"
)

// P9.3
func TestDate(t *testing.T) {
	for _, c := range []struct {
		tick int
		want api.Date
	}{{0, on(2000, 1, 1, 0)}, {23, on(2000, 1, 1, 23)}, {24, on(2000, 1, 2, 0)}, {743, on(2000, 1, 31, 23)}, {744, on(2000, 2, 1, 0)}, {1416, on(2000, 2, 29, 0)}, {1439, on(2000, 2, 29, 23)}, {1440, on(2000, 3, 1, 0)}, {8783, on(2000, 12, 31, 23)}, {8784, on(2001, 1, 1, 0)}, {8784 + 59*24 - 1, on(2001, 2, 28, 23)}, {8784 + 59*24, on(2001, 3, 1, 0)}, {878015, on(2100, 2, 28, 23)}, {878016, on(2100, 3, 1, 0)}, {top, on(2119, 8, 15, 16)}} {
		if d, e := clock.Date(c.tick); d != c.want || e != api.OK {
			t.Errorf("Date(%d): %v, %v", c.tick, d, e)
		}
		if n, e := clock.From(c.want); n != c.tick || e != api.OK {
			t.Errorf("From(%v): %d, %v", c.want, n, e)
		}
	}
}

// P9.3: dates that there are not, and such that have no tick.
func TestFromRefuses(t *testing.T) {
	const least, most = math.MinInt, math.MaxInt
	for _, d := range []api.Date{
		{}, on(2000, 0, 0, 0), on(2000, 0, 1, 0), on(2000, 1, 0, 0), on(2000, 13, 1, 0), on(2000, -1, 1, 0), on(2000, 1, -1, 0), on(2000, 1, 1, -1), on(2000, 1, 1, 24), on(2000, 1, 2, -24), on(2000, 1, 32, 0), on(2000, 2, 30, 0), on(2000, 2, 31, 0), on(2000, 4, 31, 0), on(2000, 6, 31, 0), on(2000, 9, 31, 0), on(2000, 11, 31, 0), on(2000, 12, 32, 0), on(2000, 12, 1, 25),
		on(2001, 2, 29, 0), on(2002, 2, 29, 0), on(2003, 2, 29, 0), on(2004, 2, 30, 0), on(2100, 2, 29, 0), on(2119, 2, 29, 0), on(2000, 3, 0, 0), on(2000, 1, 367, 0),
		on(1999, 12, 31, 23), on(1999, 12, 32, 0), on(1999, 13, 1, 0), on(1996, 2, 29, 0), on(0, 1, 1, 0), on(-2000, 1, 1, 0), on(2119, 8, 15, 17), on(2119, 8, 16, 0), on(2119, 9, 1, 0), on(2119, 12, 31, 23), on(2120, 1, 1, 0), on(2120, 8, 15, 16), on(2400, 2, 29, 0), on(9999, 1, 1, 0), on(1<<32+2000, 1, 1, 0),
		on(1<<62, 1, 1, 0), on(most, 1, 1, 0), on(least, 1, 1, 0), on(2000, most, 1, 0), on(2000, least, 1, 0), on(2000, 1, most, 0), on(2000, 1, least, 0), on(2000, 1, 1, most), on(2000, 1, 1, least), on(most, most, most, most), on(least, least, least, least), on(2000, 1<<32+1, 1, 0), on(2000, 1, 1<<32+1, 0), on(2000, 1, 1, 1<<32),
	} {
		if n, e := clock.From(d); n != 0 || e != api.ErrArg {
			t.Errorf("From(%v): %d, %v", d, n, e)
		}
	}
}

// P9.3: just those dates that the library's calendar leaves as they are have ticks.
func TestFromOfAllDays(t *testing.T) {
	for year := 1995; year <= 2125; year++ {
		for month := -1; month <= 14; month++ {
			for day := -1; day <= 33; day++ {
				d := on(year, month, day, 7)
				m := time.Date(year, time.Month(month), day, 7, 0, 0, 0, time.UTC)
				want := int(m.Sub(moment(0)) / time.Hour)
				wrong := api.OK
				if dated(m) != d || want < 0 || want > top {
					want, wrong = 0, api.ErrArg
				}
				if n, e := clock.From(d); n != want || e != wrong {
					t.Fatalf("From(%v): %d, %v; not %d, %v", d, n, e, want, wrong)
				}
			}
		}
	}
}

package clock_test

import (
	"math"
	"testing"
	"time"

	"slackwater/api"
	"slackwater/clock"
)

// P9.1
func TestCheck(t *testing.T) {
	for _, n := range []int{0, 1, 23, 24, 1024, 4096, top - 1, top} {
		if e := clock.Check(n); e != api.OK {
			t.Errorf("Check(%d): %v", n, e)
		}
	}
	for _, n := range beyond() {
		if e := clock.Check(n); e != api.ErrArg {
			t.Errorf("Check(%d): %v", n, e)
		}
	}
}

// P9.2, P9.3: what is no tick is refused by Check's error, with nothing beside it.
func TestNoTick(t *testing.T) {
	for _, n := range beyond() {
		if day, hour, e := clock.Of(n); day != 0 || hour != 0 || e != api.ErrArg {
			t.Errorf("Of(%d): %d, %d, %v", n, day, hour, e)
		}
		if d, e := clock.Date(n); d != (api.Date{}) || e != api.ErrArg {
			t.Errorf("Date(%d): %v, %v", n, d, e)
		}
		if w, e := clock.Week(n); w != 0 || e != api.ErrArg {
			t.Errorf("Week(%d): %d, %v", n, w, e)
		}
		if s, e := clock.Text(n); s != "" || e != api.ErrArg {
			t.Errorf("Text(%d): %q, %v", n, s, e)
		}
	}
}

// P9.2
func TestAt(t *testing.T) {
	for _, c := range []struct{ day, hour, want int }{{0, 0, 0}, {0, 1, 1}, {0, 23, 23}, {1, 0, 24}, {1, 2, 26}, {365, 23, 8783}, {366, 0, 8784}, {43689, 23, 1048559}, {43690, 0, 1048560}, {43690, 15, 1048575}, {43690, 16, 1048576}} {
		if n, e := clock.At(c.day, c.hour); n != c.want || e != api.OK {
			t.Errorf("At(%d, %d): %d, %v", c.day, c.hour, n, e)
		}
		if day, hour, e := clock.Of(c.want); day != c.day || hour != c.hour || e != api.OK {
			t.Errorf("Of(%d): %d, %d, %v", c.want, day, hour, e)
		}
	}
}

// P9.2: also where day times 24 would wrap round to a tick.
func TestAtRefuses(t *testing.T) {
	const wrap = 1 << 61 // 24 times this is 0 in 64 bits
	for _, c := range [][2]int{{0, 24}, {0, 25}, {0, -1}, {1, -1}, {1, 24}, {-1, 0}, {-1, 23}, {-1, 24}, {43690, 17}, {43690, 23}, {43690, 24}, {43691, 0}, {43691, -8}, {43691, -24}, {44000, 5}, {0, top}, {0, math.MaxInt}, {0, math.MinInt}, {wrap, 0}, {wrap + 1, 2}, {-wrap, 0}, {1 - wrap, 1}, {1 << 62, 0}, {math.MaxInt, 0}, {math.MaxInt, 23}, {math.MinInt, 0}, {math.MinInt, 5}, {math.MaxInt, math.MaxInt}, {math.MinInt, math.MinInt}, {math.MaxInt/24 + 1, 0}, {-24, 23}} {
		if n, e := clock.At(c[0], c[1]); n != 0 || e != api.ErrArg {
			t.Errorf("At(%d, %d): %d, %v", c[0], c[1], n, e)
		}
	}
}

// P9.3: Monday is 0, and the 1 January 2000 a Saturday.
func TestWeek(t *testing.T) {
	for _, c := range [][2]int{{0, 5}, {23, 5}, {24, 6}, {47, 6}, {48, 0}, {71, 0}, {72, 1}, {7*24 - 1, 4}, {7 * 24, 5}, {1416, 1}, {top, 1}} {
		if w, e := clock.Week(c[0]); w != c[1] || e != api.OK {
			t.Errorf("Week(%d): %d, %v", c[0], w, e)
		}
	}
}

// P9.2, P9.3, P9.6: every tick, held against the library's calendar.
func TestEveryTick(t *testing.T) {
	m, last := moment(0), -1
	for n := 0; n <= top; n, m = n+1, m.Add(time.Hour) {
		day, hour, e := clock.Of(n)
		if day != n/24 || hour != n%24 || e != api.OK {
			t.Fatalf("Of(%d): %d, %d, %v", n, day, hour, e)
		}
		if x, e := clock.At(day, hour); x != n || e != api.OK {
			t.Fatalf("At(%d, %d): %d, %v", day, hour, x, e)
		}
		d, e := clock.Date(n)
		if d != dated(m) || e != api.OK {
			t.Fatalf("Date(%d): %v, %v", n, d, e)
		}
		if x, e := clock.From(d); x != n || e != api.OK {
			t.Fatalf("From(%v): %d, %v", d, x, e)
		}
		rank := ((d.Year*13+d.Month)*32+d.Day)*24 + d.Hour
		if rank <= last {
			t.Fatalf("Date(%d): %v is no later than the one ahead", n, d)
		}
		last = rank
		if w, e := clock.Week(n); w != (int(m.Weekday())+6)%7 || e != api.OK {
			t.Fatalf("Week(%d): %d, %v", n, w, e)
		}
	}
}

// P9.6: a day later is the next day of the week.
func TestWeekGoesOn(t *testing.T) {
	for n := 0; n+24 <= top; n += 11 {
		w, _ := clock.Week(n)
		if next, e := clock.Week(n + 24); next != (w+1)%7 || e != api.OK {
			t.Fatalf("Week(%d): %d, %v, behind %d", n+24, next, e, w)
		}
	}
}

package clock_test

import (
	"fmt"
	"strings"
	"testing"

	"slackwater/api"
	"slackwater/clock"
)

// P9.4
func TestText(t *testing.T) {
	for _, c := range []struct {
		tick int
		want string
	}{{0, "2000-1-1 0"}, {26, "2000-1-2 2"}, {239, "2000-1-10 23"}, {1416, "2000-2-29 0"}, {8783, "2000-12-31 23"}, {8784, "2001-1-1 0"}, {878016, "2100-3-1 0"}, {top, "2119-8-15 16"}} {
		if s, e := clock.Text(c.tick); s != c.want || e != api.OK {
			t.Errorf("Text(%d): %q, %v", c.tick, s, e)
		}
		if n, e := clock.Parse(c.want); n != c.tick || e != api.OK {
			t.Errorf("Parse(%q): %d, %v", c.want, n, e)
		}
	}
}

// P9.4, P9.6: there and back, at every seventh tick, so at each hour and on each day.
func TestParseOfText(t *testing.T) {
	for n := 0; n <= top; n += 7 {
		s, e := clock.Text(n)
		m := moment(n)
		if want := fmt.Sprintf("%d-%d-%d %d", m.Year(), m.Month(), m.Day(), m.Hour()); s != want || e != api.OK {
			t.Fatalf("Text(%d): %q, %v", n, s, e)
		}
		if x, e := clock.Parse(s); x != n || e != api.OK {
			t.Fatalf("Parse(%q): %d, %v", s, x, e)
		}
	}
}

// P9.4: texts of no tick.
func TestParseRefuses(t *testing.T) {
	for _, s := range []string{
		"", " ", "-", "--", "-- ", "2000", "2000-1", "2000-1-1", "2000-1-1 ", "2000-1 0", "2000-1-1-0", "2000 1 1 0", "2000-1-1  0", " 2000-1-1 0", "2000-1-1 0 ", "2000-1-1 0 0", "2000-1-1-1 0", "2000--1 0", "-1-1 0", "2000-1- 0", "2000- 1-1 0", "2000-1-1\t0", "2000-1-1\n0", "2000-1-1 0\n", "\n2000-1-1 0", "2000-1-1 0\x00", "\x002000-1-1 0", "2000-1-1T0", "2000/1/1 0", "2000-1-1 0:00", "2000-1-1 0-", "2000-1-1 0/1", "2000_1_1 0", "2000-1-1,0",
		"2000-01-1 0", "2000-1-01 0", "2000-1-1 00", "2000-1-1 01", "02000-1-1 0", "2000-001-1 0", "+2000-1-1 0", "2000-+1-1 0", "2000-1-+1 0", "2000-1-1 +0", "2000-1-1 -0", "-2000-1-1 0", "2000--1-1 0", "2000-1--1 0", "2000-1-1 -1", "2_000-1-1 0", "2000-1-1 1_0", "0x7d0-1-1 0", "2000-0x1-1 0", "2000.0-1-1 0", "2e3-1-1 0", "2000-1-1 0.0", "2000-jan-1 0", "nan-1-1 0", "00-1-1 0", "0-1-1 0",
		"2000-0-1 0", "2000-1-0 0", "2000-13-1 0", "2000-1-32 0", "2000-2-30 0", "2000-4-31 0", "2001-2-29 0", "2100-2-29 0", "2000-1-1 24", "2000-1-1 25", "1999-12-31 23", "1-1-1 0", "2119-8-15 17", "2119-8-16 0", "2119-9-1 0", "2120-1-1 0", "9999-1-1 0", "2400-2-29 0",
		"4294969296-1-1 0", "18446744073709553616-1-1 0", "9223372036854775807-1-1 0", "9223372036854775808-1-1 0", "2000-18446744073709551617-1 0", "2000-1-18446744073709551617 0", "2000-1-1 18446744073709551616", "2000-4294967297-1 0", "2000-1-1 4294967296",
		"２０００-1-1 0", "2000-١-1 0", "2000−1−1 0", "2000-1-1\u00a00", "2000-1-1 \xff", "\xff\xfe", "2000-1-1 0é", "\ufeff2000-1-1 0", "\"2000-1-1 0\"", "0", "now",
		strings.Repeat("0", 70000) + "2000-1-1 0", "2000-1-1 " + strings.Repeat("0", 70000), strings.Repeat("-", 70000), strings.Repeat("2000-1-1 0", 7000), strings.Repeat("9", 70000) + "-1-1 0", strings.Repeat(" ", 70000),
	} {
		if n, e := clock.Parse(s); n != 0 || e != api.ErrTime {
			t.Errorf("Parse(%.60q): %d, %v", s, n, e)
		}
	}
}

// P9.4: a text with one byte more, less or other is read just if it is a tick's own.
func TestParseOfChangedTexts(t *testing.T) {
	const bytes = "0123456789- +\x00x"
	var near []string
	for _, s := range []string{"2000-1-1 0", "2000-12-31 23", "2004-2-29 11", "2119-8-15 16"} {
		for i := range len(s) + 1 {
			for _, c := range []byte(bytes) {
				near = append(near, s[:i]+string(c)+s[i:])
				if i < len(s) {
					near = append(near, s[:i]+string(c)+s[i+1:])
				}
			}
			if i < len(s) {
				near = append(near, s[:i]+s[i+1:])
			}
		}
	}
	told := map[string]int{}
	for n := range top + 1 {
		s, _ := clock.Text(n)
		told[s] = n
	}
	read := 0
	for _, s := range near {
		want, is := told[s]
		wrong := api.ErrTime
		if is {
			wrong = api.OK
			read++
		}
		if n, e := clock.Parse(s); n != want || e != wrong {
			t.Errorf("Parse(%q): %d, %v; not %d, %v", s, n, e, want, wrong)
		}
	}
	if read < 50 || read > len(near)/2 {
		t.Errorf("%d of %d are ticks' texts", read, len(near))
	}
}

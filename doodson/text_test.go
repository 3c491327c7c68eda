package doodson_test

import (
	"strings"
	"testing"

	"slackwater/api"
	"slackwater/doodson"
)

// P11.5
func TestPrint(t *testing.T) {
	for _, c := range []struct {
		n    api.Doodson
		want string
	}{
		{api.Doodson{2}, "755.555"}, {api.Doodson{2, 2, -3, 0, 0, 1}, "772.556"}, {api.Doodson{4}, "955.555"}, {api.Doodson{}, "555.555"},
		{api.Doodson{-4, -3, -2, -1, 0, 1}, "123.456"}, {api.Doodson{4, 3, 2, 1, 0, -1}, "987.654"}, {api.Doodson{-4, -4, -4, -4, -4, -4}, "111.111"}, {api.Doodson{4, 4, 4, 4, 4, 4}, "999.999"},
	} {
		if s, e := doodson.Print(c.n); s != c.want || e != api.OK {
			t.Errorf("Print(%v): %q, %v; not %q", c.n, s, e, c.want)
		}
		if n, e := doodson.Parse(c.want); n != c.n || e != api.OK {
			t.Errorf("Parse(%q): %v, %v; not %v", c.want, n, e, c.n)
		}
	}
}

// P11.5: a text that Print tells of no numbers.
func TestParseRefuses(t *testing.T) {
	for _, s := range []string{
		"", ".", "...", ".......", "755555", "7555555", "75.5555", "7555.55", "755.55", "55.555", "755.5555", "5755.555", "755.555.", ".755.555", "755..55", "755,555", "755 555", "755:555", "755/555", "755-555", "755·555", "755．555",
		"055.555", "505.555", "550.555", "555.055", "555.505", "555.550", "000.000", "-55.555", "+55.555", "x55.555", ":55.555", "/55.555", "555.55:", "555.55/", "555.5a5", "5 5.555", " 55.555", "555.55 ", "555.55\n", "\x0055.555", "555.55\x00", "\xb555.555", "555.55\xb5", "\xff55.555", "755.555 ", " 755.555", "755.555\n", "755.555\x00", "\"755.555\"",
		"1e1.555", "0x1.555", "1_1.555", "٥55.55", "５.55", "755.٥5", "M2", "2 0 0 0 0 0", strings.Repeat("5", 70000), "755." + strings.Repeat("5", 70000), strings.Repeat(".", 70000),
	} {
		if n, e := doodson.Parse(s); n != (api.Doodson{}) || e != api.ErrDoodson {
			t.Errorf("Parse(%.60q): %v, %v", s, n, e)
		}
	}
}

// P11.5: each byte at each place of a text.
func TestParseOfEachByte(t *testing.T) {
	for k := range 7 {
		for c := range 256 {
			text := []byte("755.555")
			text[k] = byte(c)
			may := c >= '1' && c <= '9'
			if k == 3 {
				may = c == '.'
			}
			n, e := doodson.Parse(string(text))
			switch {
			case may && e == api.OK:
				if s, _ := doodson.Print(n); s != string(text) {
					t.Errorf("Parse(%q): %v, which is %q", text, n, s)
				}
			case may || e != api.ErrDoodson || n != (api.Doodson{}):
				t.Errorf("Parse(%q): %v, %v", text, n, e)
			}
		}
	}
}

// P11.5, P11.6: there and back, of all that may be.
func TestParseOfPrint(t *testing.T) {
	for n := range everyOne {
		s, e := doodson.Print(n)
		if len(s) != 7 || s[3] != '.' || e != api.OK {
			t.Fatalf("Print(%v): %q, %v", n, s, e)
		}
		for k, c := range []byte(s[:3] + s[4:]) {
			if int(c)-'0' != int(n[k])+5 {
				t.Fatalf("Print(%v): %q", n, s)
			}
		}
		if m, e := doodson.Parse(s); m != n || e != api.OK {
			t.Fatalf("Parse(%q): %v, %v; not %v", s, m, e, n)
		}
	}
}

package turn_test

import (
	"math"
	"strconv"
	"strings"
	"testing"

	"slackwater/api"
	"slackwater/turn"
)

// P8.5
func TestPrint(t *testing.T) {
	for _, c := range []struct {
		a    api.Turn
		want string
	}{{at(0, 1), "0/1"}, {at(1, 4), "1/4"}, {at(989, 56250), "989/56250"}, {at(1, top), "1/4294967296"}, {at(top-1, top), "4294967295/4294967296"}} {
		if s, e := turn.Print(c.a); s != c.want || e != api.OK {
			t.Errorf("Print(%v): %q, %v", c.a, s, e)
		}
		if a, e := turn.Parse(c.want); a != c.a || e != api.OK {
			t.Errorf("Parse(%q): %v, %v", c.want, a, e)
		}
	}
}

// P8.5: a text that Print tells of no turn.
func TestParseRefuses(t *testing.T) {
	for _, s := range []string{
		"", "/", "1", "0", "1/", "/4", "//", "1//4", "1/4/", "/1/4", "1/4/1", "2/8", "1 / 4", " 1/4", "1/4 ", "1/ 4", "1 /4", "01/4", "1/04", "00/1", "0/01", "0/2", "0/0", "1/0", "1/1", "4/4", "5/4", "-1/4", "1/-4", "-1/-4", "-0/1", "0/-1", "+1/4", "1/+4", "+0/1", "0/+1",
		"1/4294967297", "4294967296/4294967297", "4294967296/4294967296", "2/4294967296", "1/18446744073709551620", "18446744073709551617/4", "1/9223372036854775807", "9223372036854775808/9223372036854775809", "0/18446744073709551617", "18446744073709551616/1",
		"1/4\n", "\n1/4", "1/4\x00", "\x001/4", "1\t/4", "1.0/4", "1/4.0", "1e0/4", "0x1/4", "1/0x4", "0b1/4", "1_0/11", "1/1_1", "x/4", "1/x", "a", "one/four", "1\\4", "1:4", "1÷4", "¼", "1⁄4", "١/٤", "１/４", "1/\xff", "nan/1", "\"1/4\"",
		strings.Repeat("0", 70000) + "1/4", "1/" + strings.Repeat("4", 70000), strings.Repeat("/", 70000),
	} {
		if a, e := turn.Parse(s); e != api.ErrTurn || a != (api.Turn{}) {
			t.Errorf("Parse(%.60q): %v, %v", s, a, e)
		}
	}
}

// P8.5, P8.6: there and back.
func TestParseOfPrint(t *testing.T) {
	d := dice(83)
	l := edges()
	for range 20000 {
		l = append(l, d.turn(t))
	}
	for _, a := range l {
		s, e := turn.Print(a)
		if e != api.OK || s != strconv.FormatInt(a.Part, 10)+"/"+strconv.FormatInt(a.Whole, 10) {
			t.Errorf("Print(%v): %q, %v", a, s, e)
		}
		if b, e := turn.Parse(s); b != a || e != api.OK {
			t.Errorf("Parse(%q): %v, %v", s, b, e)
		}
	}
	for _, a := range wrong() {
		s := strconv.FormatInt(a.Part, 10) + "/" + strconv.FormatInt(a.Whole, 10)
		if b, e := turn.Parse(s); e != api.ErrTurn || b != (api.Turn{}) {
			t.Errorf("Parse(%q): %v, %v", s, b, e)
		}
	}
}

// P8.5: each text of a few bytes is read just if it is what Print tells.
func TestParseOfShortTexts(t *testing.T) {
	const bytes = "0123/-+ "
	told := map[string]api.Turn{}
	for whole := int64(1); whole < 1000; whole++ {
		for part := range whole {
			if s, e := turn.Print(at(part, whole)); e == api.OK {
				told[s] = at(part, whole)
			}
		}
	}
	for size, most := 1, len(bytes); size <= 5; size, most = size+1, most*len(bytes) {
		for k := range most {
			var s string
			for i := k; len(s) < size; i /= len(bytes) {
				s += bytes[i%len(bytes) : i%len(bytes)+1]
			}
			want, ok := told[s]
			a, e := turn.Parse(s)
			if a != want || ok != (e == api.OK) || !ok && e != api.ErrTurn {
				t.Errorf("Parse(%q): %v, %v", s, a, e)
			}
		}
	}
}

// P1: no numbers of whatever size make a call panic.
func TestCalm(t *testing.T) {
	l := []int64{math.MinInt64, math.MinInt64 + 1, -top - 1, -top, -2, -1, 0, 1, 2, 3, 4, top - 1, top, top + 1, math.MaxInt64 - 1, math.MaxInt64}
	for _, part := range l {
		for _, whole := range l {
			a := at(part, whole)
			s, e := turn.Print(a)
			if e != turn.Check(a) || (s == "") != (e != api.OK) {
				t.Errorf("Print(%v): %q, %v", a, s, e)
			}
			if b, f := turn.Of(part, whole); f == api.OK && turn.Check(b) != api.OK || e == api.OK && a != b {
				t.Errorf("Of(%d, %d): %v, %v", part, whole, b, f)
			}
			if _, f := turn.Root(a); f != e {
				t.Errorf("Root(%v): %v", a, f)
			}
			for _, n := range []int32{math.MinInt32, -1, 0, 1, math.MaxInt32} {
				if _, f := turn.Times(a, n); f != e {
					t.Errorf("Times(%v, %d): %v", a, n, f)
				}
			}
		}
	}
}

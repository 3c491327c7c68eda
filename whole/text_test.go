package whole_test

import (
	"math"
	"strconv"
	"strings"
	"testing"

	"slackwater/api"
	"slackwater/whole"
)

// P2.6

func TestPrintAndParse(t *testing.T) {
	ok := must(t)
	for _, c := range []struct {
		a    api.Whole
		text string
	}{
		{n(0), "0"}, {n(1), "1"}, {n(-1), "-1"}, {n(10), "10"}, {n(-100), "-100"}, {w(true, 0, 1), "-4294967296"}, {n(math.MinInt64), "-9223372036854775808"},
		{w(false, 0, 0, 0, 0, 1), "340282366920938463463374607431768211456"}, {w(true, 0, 0, 0, 0, 1), "-340282366920938463463374607431768211456"},
	} {
		if s, e := whole.Print(c.a); s != c.text || e != api.OK {
			t.Errorf("Print of %v: %s %v", c.a, s, e)
		}
		if got := ok(whole.Parse(c.text)); !same(got, c.a) {
			t.Errorf("Parse of %s: %v", c.text, got)
		}
	}
	for _, x := range edges() {
		text := strconv.FormatInt(x, 10)
		if s, e := whole.Print(n(x)); s != text || e != api.OK {
			t.Errorf("Print of %d: %s %v", x, s, e)
		}
		if got := ok(whole.Parse(text)); !same(got, n(x)) {
			t.Errorf("Parse of %s: %v", text, got)
		}
	}
}

func TestParseRefuses(t *testing.T) {
	for _, s := range []string{
		"", "-", "--", "--1", "-0", "-00", "00", "07", "-07", "+1", "+0", "-+1", "+-1", "1-", "1-2", "1 ", " 1", "- 1", "-1 ", "1\n", "1/2", "1.0", "1e3", "0x1", "1_000", "1,000",
		"a", "-a", "1a", "\x00", "1\x00", "٣", "−1", "１", "\xff", ":", "1/", strings.Repeat("1", 65535) + "a", "-" + strings.Repeat("0", 65535), "+" + strings.Repeat("1", 65535),
	} {
		got, e := whole.Parse(s)
		refused(t, "Parse of "+strconv.Quote(s[:min(len(s), 20)]), got, e, api.ErrWhole)
	}
}

func TestParseOfLongTexts(t *testing.T) {
	for name, s := range map[string]string{
		"65,537 digits":        strings.Repeat("1", 65537),
		"- and 65,536 digits":  "-" + strings.Repeat("1", 65536),
		"65,537 letters":       strings.Repeat("a", 65537),
		"- and 65,536 noughts": "-" + strings.Repeat("0", 65536),
		"65,536 digits":        strings.Repeat("1", 65536),
		"- and 65,535 digits":  "-" + strings.Repeat("9", 65535),
	} {
		got, e := whole.Parse(s)
		refused(t, "Parse of "+name, got, e, api.ErrLong)
	}
}

// The greatest number of 2,048 words, and the next one.
func TestParseUpTo2048Words(t *testing.T) {
	ok := must(t)
	greatest := full(false, 2048, 1<<32-1)
	text, e := whole.Print(greatest)
	if e != api.OK || len(text) != 19729 || text[len(text)-1] != '5' {
		t.Fatalf("Print of 2^65536 less 1: %d digits, %v", len(text), e)
	}
	if got := ok(whole.Parse(text)); !same(got, greatest) {
		t.Error("Parse of 2^65536 less 1")
	}
	if got := ok(whole.Parse("-" + text)); !same(got, opposite(greatest)) {
		t.Error("Parse of 1 less 2^65536")
	}
	next := text[:len(text)-1] + "6"
	got, e := whole.Parse(next)
	refused(t, "Parse of 2^65536", got, e, api.ErrLong)
	got, e = whole.Parse("-" + next)
	refused(t, "Parse of -2^65536", got, e, api.ErrLong)
}

// P2.7

func TestTextsAreTheWayBack(t *testing.T) {
	ok := must(t)
	d := dice(3)
	for i := range 2000 {
		k := 1 + i%40
		if i%100 == 0 {
			k = 2048
		}
		a := d.number(k)
		text, e := whole.Print(a)
		if back := ok(whole.Parse(text)); e != api.OK || !same(back, a) {
			t.Fatal("Parse of Print", a, text, back)
		}
	}
	for i := range 2000 {
		digits := []byte(nil)
		if i%2 == 0 {
			digits = append(digits, '-')
		}
		digits = append(digits, byte('1'+d.below(9)))
		for range d.below(300) {
			digits = append(digits, byte('0'+d.below(10)))
		}
		if s, e := whole.Print(ok(whole.Parse(string(digits)))); s != string(digits) || e != api.OK {
			t.Fatal("Print of Parse", string(digits), s)
		}
	}
}

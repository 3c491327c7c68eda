package ratio_test

import (
	"math"
	"strconv"
	"strings"
	"testing"

	"slackwater/api"
	"slackwater/ratio"
)

// P3.5

func TestPrintAndParse(t *testing.T) {
	ok := must(t)
	for _, c := range []struct {
		a    api.Ratio
		text string
	}{
		{q(0, 1), "0"}, {q(1, 1), "1"}, {q(-1, 1), "-1"}, {q(-3, 2), "-3/2"}, {q(3, 2), "3/2"}, {q(1, 10), "1/10"}, {q(-10, 3), "-10/3"}, {q(100, 1), "100"}, {q(1, 100), "1/100"},
		{q(math.MinInt64, 1), "-9223372036854775808"}, {q(math.MinInt64, 3), "-9223372036854775808/3"}, {q(-1, math.MaxInt64), "-1/9223372036854775807"},
		{r(true, ints(1, 0, 0, 0, 1), ints(0, 1)), "-340282366920938463463374607431768211457/4294967296"}, {r(false, ints(1), ints(0, 0, 0, 0, 1)), "1/340282366920938463463374607431768211456"},
	} {
		if s, e := ratio.Print(c.a); s != c.text || e != api.OK {
			t.Errorf("Print of %v: %s %v", c.a, s, e)
		}
		if got := ok(ratio.Parse(c.text)); !same(got, c.a) {
			t.Errorf("Parse of %s: %v", c.text, got)
		}
	}
}

func TestParseOfSmallNumbers(t *testing.T) {
	for num := range uint64(40) {
		for den := range uint64(40) {
			above, below := strconv.FormatUint(num, 10), strconv.FormatUint(den, 10)
			for _, neg := range []bool{false, true} {
				text := above + "/" + below
				if neg {
					text = "-" + text
				}
				got, e := ratio.Parse(text)
				if den < 2 || greatestDivisor(num, den) != 1 {
					refused(t, "Parse of "+text, got, e, api.ErrText)
					continue
				}
				if !same(got, r(neg, list(num), list(den))) || e != api.OK {
					t.Errorf("Parse of %s: %v %v", text, got, e)
				}
			}
		}
	}
}

func TestParseRefuses(t *testing.T) {
	for _, s := range []string{
		"", "-", "--", "--1", "-0", "-00", "00", "07", "-07", "+1", "+0", "+1/2", "-+1", "1-", "1-2", "1 ", " 1", "- 1", "-1 ", "1\n", "1.5", "1e3", "0x1", "1_000", "1,000",
		"/", "1/", "/2", "-/2", "-/", "1//2", "/1/2", "1/2/", "1/2/3", "1/-2", "-1/-2", "1/+2", "1/ 2", "1 /2", " 1/2", "1/2 ", "1/02", "01/2", "00/2", "1/00",
		"4/2", "-4/2", "2/4", "3/1", "-3/1", "0/1", "-0/1", "0/5", "-0/5", "1/0", "-1/0", "0/0", "1/1", "-1/1", "5/5", "10/4", "1:2", "1\\2", "1⁄2", "½",
		"a", "-a", "1a", "1/a", "1/2a", "\x00", "1\x00", "1/2\x00", "٣", "−1", "１", "\xff", "1/\xff",
		strings.Repeat("1", 65535) + "a", "+" + strings.Repeat("1", 65535), "-" + strings.Repeat("0", 65535), strings.Repeat("1", 32000) + "/", strings.Repeat("/", 65536),
		// too long and in no lowest terms
		strings.Repeat("4", 32000) + "/" + strings.Repeat("4", 32000), strings.Repeat("2", 40000) + "/2", "5/" + strings.Repeat("5", 40000), strings.Repeat("7", 40000) + "/1", strings.Repeat("7", 40000) + "/0", "0/" + strings.Repeat("3", 40000),
	} {
		got, e := ratio.Parse(s)
		refused(t, "Parse of "+strconv.Quote(s[:min(len(s), 20)]), got, e, api.ErrText)
	}
}

func TestParseOfLongTexts(t *testing.T) {
	for name, s := range map[string]string{
		"65,537 digits":              strings.Repeat("1", 65537),
		"65,537 letters":             strings.Repeat("a", 65537),
		"65,537 bars":                strings.Repeat("/", 65537),
		"65,537 bytes, not lowest":   "2/" + strings.Repeat("2", 65535),
		"- and 65,536 digits":        "-" + strings.Repeat("1", 65536),
		"65,536 digits":              strings.Repeat("1", 65536),
		"- and 65,535 digits":        "-" + strings.Repeat("9", 65535),
		"a Den of 65,534 digits":     "1/" + strings.Repeat("9", 65534),
		"a Num of 65,534 digits":     strings.Repeat("9", 65534) + "/2",
		"both of some 32,767 digits": strings.Repeat("1", 32767) + "/" + strings.Repeat("1", 32768),
	} {
		got, e := ratio.Parse(s)
		refused(t, "Parse of "+name, got, e, api.ErrLong)
	}
}

// The greatest Num and Den of 2,048 words, and the next ones.
func TestParseUpTo2048Words(t *testing.T) {
	ok := must(t)
	greatest := full(2048, 1<<32-1)
	text, e := ratio.Print(r(false, greatest, ints(1)))
	if e != api.OK || len(text) != 19729 || text[len(text)-1] != '5' {
		t.Fatalf("Print of 2^65536 less 1: %d digits, %v", len(text), e)
	}
	next := text[:len(text)-1] + "6"
	power, e := ratio.Print(r(false, two(65535), ints(1)))
	if e != api.OK {
		t.Fatal("Print of 2^65535", e)
	}
	for s, want := range map[string]api.Ratio{
		text: r(false, greatest, ints(1)), "-" + text: r(true, greatest, ints(1)), text + "/2": r(false, greatest, ints(2)), "-2/" + text: r(true, ints(2), greatest), "-" + text + "/" + power: r(true, greatest, two(65535)),
	} {
		if got := ok(ratio.Parse(s)); !same(got, want) {
			t.Errorf("Parse of %d bytes: %d over %d words", len(s), len(got.Num), len(got.Den))
		}
		if back, e := ratio.Print(want); back != s || e != api.OK {
			t.Errorf("Print of %d over %d words: %d bytes, %v", len(want.Num), len(want.Den), len(back), e)
		}
	}
	for _, s := range []string{next, "-" + next, next + "/3", "-3/" + next, next + "/" + text, text + "/" + next} {
		got, e := ratio.Parse(s)
		refused(t, "Parse of "+s[:5]+"...", got, e, api.ErrLong)
	}
}

// P3.6

func TestTextsAreTheWayBack(t *testing.T) {
	ok := must(t)
	d := dice(6)
	texts := map[string]api.Ratio{}
	for i := range 1000 {
		k := 1 + i%30
		if i%200 == 0 {
			k = 2000
		}
		a := d.fraction(t, k)
		text, e := ratio.Print(a)
		if back := ok(ratio.Parse(text)); e != api.OK || !same(back, a) {
			t.Fatal("Parse of Print", a, text, back)
		}
		if other, there := texts[text]; there && !same(other, a) {
			t.Fatal("unlike fractions with one text", a, other)
		}
		texts[text] = a
	}
	for i := range 1000 {
		// an odd Num over a power of ten's neighbour may have something in common: those texts are none's
		text := digits(&d, 200)
		if i%2 == 0 {
			text = "-" + text
		}
		if i%3 > 0 {
			text += "/" + digits(&d, 200)
		}
		a, e := ratio.Parse(text)
		if e == api.ErrText && i%3 > 0 {
			continue
		}
		if s, f := ratio.Print(ok(a, e)); s != text || f != api.OK {
			t.Fatal("Print of Parse", text, s)
		}
	}
}

// digits throws the text of a number above 0.
func digits(d *dice, most int) string {
	text := []byte{byte('1' + d.below(9))}
	for range d.below(most) {
		text = append(text, byte('0'+d.below(10)))
	}
	return string(text)
}

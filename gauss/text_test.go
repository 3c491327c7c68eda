package gauss_test

import (
	"strconv"
	"strings"
	"testing"

	"slackwater/api"
	"slackwater/gauss"
)

// P4.3

func TestPrintAndParse(t *testing.T) {
	ok := must(t)
	for _, c := range []struct {
		a    api.Gauss
		text string
	}{
		{z(0, 0), "0 0"}, {z(1, 0), "1 0"}, {z(0, -1), "0 -1"}, {g(q(3, 5), q(-4, 5)), "3/5 -4/5"}, {g(q(-7, 25), q(24, 25)), "-7/25 24/25"}, {z(-10, 100), "-10 100"}, {g(q(1, 10), q(0, 1)), "1/10 0"},
		{g(r(true, ints(1, 0, 0, 0, 1), ints(0, 1)), q(2, 3)), "-340282366920938463463374607431768211457/4294967296 2/3"},
	} {
		if s, e := gauss.Print(c.a); s != c.text || e != api.OK {
			t.Errorf("Print of %v: %q %v", c.a, s, e)
		}
		if got := ok(gauss.Parse(c.text)); !same(got, c.a) {
			t.Errorf("Parse of %q: %v", c.text, got)
		}
	}
}

func TestParseRefuses(t *testing.T) {
	good := []string{"0", "1", "-3/2", "12345678901234567890/7"}
	bad := []string{
		"", "-", "-0", "00", "07", "+1", "1.5", "1e3", "2i", "i", "i2", "6/10", "4/2", "3/1", "0/1", "0/5", "1/0", "/", "1/", "/2", "1//2", "1/-2", "1/02", "01/2", "a", "\x00", "1\x00", "\xff", "１", "1\t", "\n1", "1\u00a0",
	}
	var texts []string
	for _, b := range bad {
		for _, s := range good {
			texts = append(texts, b+" "+s, s+" "+b)
		}
		for _, other := range bad {
			texts = append(texts, b+" "+other)
		}
	}
	for _, s := range good {
		texts = append(texts, s, s+" ", " "+s, s+"  "+s, " "+s+" "+s, s+" "+s+" ", s+" "+s+" "+s, s+"\t"+s, s+"\n"+s, s+","+s, s+"+"+s, s+"-"+s, s+" +"+s, s+" - "+s, s+"\u00a0"+s, s+" "+s+"\n", "("+s+" "+s+")")
	}
	texts = append(texts, "", " ", "  ", "1 2i", "1+2i", strings.Repeat(" ", 65536), strings.Repeat("1", 65536), strings.Repeat("1 ", 32768))
	for _, s := range texts {
		got, e := gauss.Parse(s)
		refused(t, "Parse of "+strconv.Quote(s[:min(len(s), 40)]), got, e, api.ErrGauss)
	}
}

// Each piece is looked at as a text ahead of how long numbers are.
func TestParseOfLongTexts(t *testing.T) {
	ones := strings.Repeat("1", 30000)
	for name, c := range map[string]struct {
		s    string
		want api.Errno
	}{
		"65,537 digits":                       {strings.Repeat("1", 65537), api.ErrLong},
		"65,537 blanks":                       {strings.Repeat(" ", 65537), api.ErrLong},
		"65,537 bytes, a number's":            {"1 " + strings.Repeat("1", 65535), api.ErrLong},
		"65,537 bytes, no number's":           {"a " + strings.Repeat("1", 65535), api.ErrLong},
		"65,536 bytes, Im too long":           {"1 " + strings.Repeat("1", 65534), api.ErrLong},
		"65,536 bytes, Re too long":           {strings.Repeat("1", 65534) + " 1", api.ErrLong},
		"both too long":                       {ones + " " + ones, api.ErrLong},
		"Re too long, Im no text":             {ones + " a", api.ErrGauss},
		"Re too long, Im empty":               {ones + " ", api.ErrGauss},
		"Re too long, Im not in lowest terms": {ones + " 2/4", api.ErrGauss},
		"Re too long, three pieces":           {ones + " 1 1", api.ErrGauss},
		"Re no text, Im too long":             {"+1 " + ones, api.ErrGauss},
		"Re empty, Im too long":               {" " + ones, api.ErrGauss},
		"Re long, not in lowest terms":        {strings.Repeat("2", 30000) + "/2 1", api.ErrGauss},
		"Im long, not in lowest terms":        {"1 2/" + strings.Repeat("2", 30000), api.ErrGauss},
		"Re's Den too long":                   {"1/" + ones + " 1", api.ErrLong},
		"Im's Den too long":                   {"1 -1/" + ones, api.ErrLong},
		"one number alone, too long":          {ones, api.ErrGauss},
	} {
		got, e := gauss.Parse(c.s)
		refused(t, "Parse of "+name, got, e, c.want)
	}
}

// The greatest Num and Den of 2,048 words, and the next ones.
func TestTextsUpTo2048Words(t *testing.T) {
	ok := must(t)
	greatest := below(65536)
	text, e := gauss.Print(g(greatest, opposite(greatest)))
	if e != api.OK || len(text) != 19729+1+19730 {
		t.Fatalf("Print of 2^65536 less 1 twice: %d bytes, %v", len(text), e)
	}
	if got := ok(gauss.Parse(text)); !same(got, g(greatest, opposite(greatest))) {
		t.Fatalf("Parse of Print: %s", sizes(got))
	}
	digits := text[:19729]
	next := digits[:19728] + "6"
	for _, s := range []string{next + " 0", "0 " + next, "-" + next + " 0", "0 1/" + next, "-1/" + next + " 0", digits + " " + next, next + " " + digits} {
		got, e := gauss.Parse(s)
		refused(t, "Parse of "+s[:5]+"...", got, e, api.ErrLong)
	}
}

// A text of 65,536 bytes is told, and read; one of 65,537 is not.
func TestPrintUpToMaxText(t *testing.T) {
	ok := must(t)
	greatest := below(65536).Num
	// -, 19,729 digits, a bar, 19,729 digits, a blank; 6,345 digits, a bar, 19,729 digits.
	long := g(r(true, greatest, two(65535)), r(false, tens(6344), greatest))
	long.Im.Num = plus(long.Im.Num, 1)
	for gauss.Check(long) != api.OK {
		long.Im.Num = plus(long.Im.Num, 1)
	}
	text, e := gauss.Print(long)
	if len(text) != 65536 || e != api.OK {
		t.Fatalf("Print of %s: %d bytes, %v", sizes(long), len(text), e)
	}
	if got := ok(gauss.Parse(text)); !same(got, long) {
		t.Errorf("Parse of Print: %s", sizes(got))
	}
	longer := g(long.Re, opposite(long.Im))
	if gauss.Check(longer) != api.OK {
		t.Fatal("a number with the other sign")
	}
	if s, e := gauss.Print(longer); s != "" || e != api.ErrLong {
		t.Errorf("Print of 65,537 bytes: %d bytes, %v", len(s), e)
	}
	longest := g(long.Re, long.Re)
	if s, e := gauss.Print(longest); s != "" || e != api.ErrLong {
		t.Errorf("Print of the longest: %d bytes, %v", len(s), e)
	}
}

// tens is 10^k.
func tens(k int) []uint32 {
	words := ints(1)
	for range k {
		var carry uint64
		for i, x := range words {
			carry += 10 * uint64(x)
			words[i] = uint32(carry)
			carry >>= 32
		}
		if carry > 0 {
			words = append(words, uint32(carry))
		}
	}
	return words
}

// P4.4

func TestTextsAreTheWayBack(t *testing.T) {
	ok := must(t)
	d := dice(4)
	texts := map[string]api.Gauss{}
	for i := range 400 {
		k := 1 + i%20
		if i%100 == 0 {
			k = 800
		}
		a := d.number(t, k)
		text, e := gauss.Print(a)
		back := ok(gauss.Parse(text))
		if e != api.OK || !same(back, a) {
			t.Fatal("Parse of Print", a, text, back)
		}
		if again, e := gauss.Print(back); again != text || e != api.OK {
			t.Fatal("Print of Parse", text, again)
		}
		if other, there := texts[text]; there && !same(other, a) {
			t.Fatal("unlike numbers with one text", a, other)
		}
		texts[text] = a
	}
}

package tide_test

import (
	"math/big"
	"regexp"
	"strings"
	"testing"

	"slackwater/api"
	"slackwater/tide"
)

// P13.3
func TestPrintAndParse(t *testing.T) {
	for _, w := range []struct {
		a    api.Tide
		text string
	}{
		{m2(), "M2 8 1 3/2 -1"}, {c("m", 1, 2, z(0, 0)), "m 1 2 0 0"}, {c("K1", 1000, 999, z(0, -1)), "K1 1000 999 0 -1"}, {c("Z9", 999, -1000, g(q(-7, 25), q(24, 25))), "Z9 999 -1000 -7/25 24/25"}, {c("abcdefghij0123456789", 10, -9, z(-10, 100)), "abcdefghij0123456789 10 -9 -10 100"},
		{c("x", 2, 1, g(r(true, ints(1, 0, 0, 0, 1), ints(0, 1)), q(2, 3))), "x 2 1 -340282366920938463463374607431768211457/4294967296 2/3"},
	} {
		if s, e := tide.Print(w.a); s != w.text || e != api.OK {
			t.Errorf("Print of %v: %q %v", w.a, s, e)
		}
		if got := must(t)(tide.Parse(w.text)); !same(got, w.a) {
			t.Errorf("Parse of %q: %v", w.text, got)
		}
	}
}

// P13.3
func TestPrintRefuses(t *testing.T) {
	for key, w := range wrongTides() {
		if s, e := tide.Print(w.a); s != "" || e != w.want {
			t.Errorf("Print, wrong by %.60q: %.60q %v, not %v", key, s, e, w.want)
		}
	}
}

// P13.3: texts that are no constituent's.
func TestParseRefuses(t *testing.T) {
	texts := []string{
		"", " ", "    ", "     ", "M2", "M2 ", "M2 8", "M2 8 1", "M2 8 1 ", "M2 8 1 3/2", "M2 8 1 3/2 ", "M2 8 1 3/2 -1 ", "M2 8 1 3/2 -1 0", " M2 8 1 3/2 -1", "M2  8 1 3/2 -1", "M2 8  1 3/2 -1", "M2 8 1  3/2 -1", "M2 8 1 3/2  -1", "M2 8 1 3/2 -1\n", "\nM2 8 1 3/2 -1", "M2\t8 1 3/2 -1", "M2 8\t1 3/2 -1", "M2 8 1\t3/2 -1", "M2 8 1 3/2\t-1", "M2\u00a08 1 3/2 -1", "M2,8,1,3/2,-1", "M2 8 1 3/2 -1i", "M2 8/1 3/2 -1", "8 1 3/2 -1", "8 M2 1 3/2 -1", "M2 S2 8 1 3/2 -1", "M2 8 1 2 3 4", "M2 8 1 0 0 0 0",
		strings.Repeat("M", 65536), strings.Repeat(" ", 65536), strings.Repeat("1 ", 32768), strings.Repeat("M2 8 1 0 0 ", 5957),
	}
	for _, name := range noNames() {
		if len(name) < 60000 {
			texts = append(texts, name+" 8 1 3/2 -1", name+" 1 1 0 0", name+" 0 0 2/4 0", name+" 8 1 "+strings.Repeat("1", 30000)+" 0")
		}
	}
	for _, n := range []string{"", "-", "+", "+8", "08", "008", "-08", "00", "-0", "--8", "8.0", "8.", "1e1", "0x8", "1_0", "8/1", "3/2", "8i", "8-", "x", "M2", "100000", "-10000", "000008", "123456", "-99999", "4294967304", "18446744073709551624", "99999999999999999999", "８", "٣", "8\x00", "\x008", "8\n", "\xff", "²", strings.Repeat("1", 30000), strings.Repeat("0", 30000) + "8"} {
		texts = append(texts, "M2 "+n+" 1 3/2 -1", "M2 8 "+n+" 3/2 -1", "M2 "+n+" "+n+" 0 0", "M2 0 "+n+" 0 0", "M2 "+n+" 0 0 0")
	}
	for _, f := range []string{"", "-", "-0", "00", "07", "+1", "1.5", "1e3", "2i", "i", "6/10", "4/2", "3/1", "0/1", "0/5", "1/0", "/", "1/", "/2", "1//2", "1/-2", "1/02", "01/2", "a", "\x00", "1\x00", "\xff", "１", "M2", strings.Repeat("2", 30000) + "/2"} {
		texts = append(texts, "M2 8 1 "+f+" 0", "M2 8 1 -3/2 "+f, "M2 1 1 "+f+" 0", "M2 0 0 0 "+f, "M2 8 1 "+f+" "+strings.Repeat("1", 30000), "M2 8 1 "+strings.Repeat("1", 30000)+" "+f, "M2 2 4 "+strings.Repeat("1", 30000)+" "+f)
	}
	for _, s := range texts {
		got, e := tide.Parse(s)
		refused(t, "Parse of "+s[:min(len(s), 40)], got, e, api.ErrTide)
	}
}

// P13.3, rule 1: a text that is too long; one that is no constituent's; a rotor that may not be; a number that is too long.
func TestOrderOfParseErrors(t *testing.T) {
	long := strings.Repeat("1", 30000)
	for _, rotor := range []string{"0 0", "0 1", "1 0", "1 1", "1 -1", "2 2", "2 4", "-8 1", "-1 -2", "1001 1", "1 1001", "1 -1001", "99999 1", "1 99999", "1 -9999", "-9999 -9999", "99999 99998", "10000 1", "65537 2"} {
		for _, number := range []string{"0 0", "3/2 -1", long + " 0", "0 " + long, "1/" + long + " " + long} {
			got, e := tide.Parse("M2 " + rotor + " " + number)
			refused(t, "Parse with the rotor "+rotor, got, e, api.ErrRotor)
		}
	}
	for _, number := range []string{long + " 0", "0 " + long, "-" + long + " 1/2", "1/" + long + " 0", "0 -1/" + long, long + " " + long} {
		got, e := tide.Parse("M2 8 1 " + number)
		refused(t, "Parse of too long a number", got, e, api.ErrLong)
	}
	for _, s := range []string{strings.Repeat("M", 65537), strings.Repeat(" ", 65537), "M2 8 1 0 " + strings.Repeat("1", 65528), "2M 1 1 2/4 " + strings.Repeat("1", 65528), "M2 1 1 0 " + strings.Repeat("1", 65528), "M2 8 1 0 0" + strings.Repeat(" ", 65527), strings.Repeat("M2 8 1 0 0 ", 10000)} {
		got, e := tide.Parse(s)
		refused(t, "Parse of above 65,536 bytes", got, e, api.ErrLong)
	}
	for _, s := range []string{"M2 8 1 0 " + strings.Repeat("1", 65527), "M2 8 1 " + strings.Repeat("1", 65527) + " 0"} {
		got, e := tide.Parse(s)
		refused(t, "Parse of 65,536 bytes with too long a number", got, e, api.ErrLong)
	}
}

// P13.3: a text of 65,536 bytes is told, and read; one of 65,537 is not.
func TestTextsUpToMaxText(t *testing.T) {
	// Nines over a 1 with noughts have no common divisor.
	text := func(name string, last int) string {
		below := "/1" + strings.Repeat("0", 19700)
		return name + " 8 -1 " + strings.Repeat("9", 19700) + below + " -" + strings.Repeat("9", last) + below
	}
	room := 65536 - len(text("M2", 0))
	s := text("M2", room)
	a := must(t)(tide.Parse(s))
	if got, e := tide.Print(a); len(s) != 65536 || got != s || e != api.OK {
		t.Errorf("Print of 65,536 bytes: %d bytes, %v", len(got), e)
	}
	for key, change := range map[string]func(*api.Tide){
		"name":       func(a *api.Tide) { a.Name = "M2x" },
		"long name":  func(a *api.Tide) { a.Name = "abcdefghij0123456789" },
		"Far":        func(a *api.Tide) { a.Rotor.Far = 10 },
		"Near":       func(a *api.Tide) { a.Rotor.Near = -11 },
		"Re":         func(a *api.Tide) { a.Number.Re.Neg = true },
		"everything": func(a *api.Tide) { *a = c("M2x", 1000, -999, g(opposite(a.Number.Re), a.Number.Re)) },
	} {
		b := tide.Copy(a)
		change(&b)
		if tide.Check(b) != api.OK {
			t.Fatal(key, tide.Check(b))
		}
		if got, e := tide.Print(b); got != "" || e != api.ErrLong {
			t.Errorf("Print with a longer %s: %d bytes, %v", key, len(got), e)
		}
	}
	b := tide.Copy(a)
	b.Name, b.Number.Re.Neg = "M", true
	if got, e := tide.Print(b); len(got) != 65536 || e != api.OK {
		t.Errorf("Print of 65,536 bytes with another name: %d bytes, %v", len(got), e)
	}
	for _, s := range []string{text("M2x", room), text("M2", room+1)} {
		got, e := tide.Parse(s)
		refused(t, "Parse of 65,537 bytes", got, e, api.ErrLong)
	}
	// A number whose own text is longer than any.
	re := a.Number.Re
	if got, e := tide.Print(c("M2", 8, 1, g(re, re))); got != "" || e != api.ErrLong {
		t.Errorf("Print of a number of above 65,536 bytes: %d bytes, %v", len(got), e)
	}
}

// P13.3: the greatest Num and Den of 2,048 words, and the next ones.
func TestTextsUpTo2048Words(t *testing.T) {
	a := c("M2", 8, 1, g(greatest(), opposite(greatest())))
	s, e := tide.Print(a)
	if e != api.OK || len(s) != 7+19729+1+19730 {
		t.Fatalf("Print of 2^65536 less 1 twice: %d bytes, %v", len(s), e)
	}
	if got := must(t)(tide.Parse(s)); !same(got, a) {
		t.Fatal("Parse of Print")
	}
	next := s[7:7+19728] + "6"
	for _, number := range []string{next + " 0", "0 " + next, "-" + next + " 0", "0 1/" + next, "-1/" + next + " 0"} {
		got, e := tide.Parse("M2 8 1 " + number)
		refused(t, "Parse of 2^65536", got, e, api.ErrLong)
	}
}

// P13.4
func TestTextsAreTheWayBack(t *testing.T) {
	d := dice(7)
	texts := map[string]api.Tide{}
	for range 1000 {
		a := d.tide(t)
		s, e := tide.Print(a)
		if e != api.OK {
			t.Fatal("Print", a, e)
		}
		back := must(t)(tide.Parse(s))
		if !same(back, a) || !tide.Same(back, a) {
			t.Fatal("Parse of Print", a, s, back)
		}
		if again, e := tide.Print(back); again != s || e != api.OK {
			t.Fatal("Print of Parse", s, again)
		}
		if other, there := texts[s]; there && !same(other, a) {
			t.Fatal("unlike constituents with one text", a, other)
		}
		texts[s] = a
	}
}

// reading is what the document asks of a short text, by a pattern and the library's fractions.
func reading(pattern *regexp.Regexp, s string) api.Errno {
	words := pattern.FindStringSubmatch(s)
	if words == nil || len(words[1]) > 5 || len(words[2]) > 5 {
		return api.ErrTide
	}
	for _, w := range words[3:5] {
		f, ok := new(big.Rat).SetString(w)
		if !ok || f.RatString() != w {
			return api.ErrTide
		}
	}
	far, _ := new(big.Int).SetString(words[1], 10)
	near, _ := new(big.Int).SetString(words[2], 10)
	f, n := far.Int64(), near.Int64()
	size := max(n, -n)
	if f < 1 || f > 1000 || size < 1 || size > 1000 || greatestDivisor(uint64(f), uint64(size)) != 1 || f == size {
		return api.ErrRotor
	}
	return api.OK
}

// P13.3, P13.4: a text with one byte more, less or other is read just if it is a constituent's own.
func TestParseOfChangedTexts(t *testing.T) {
	const number = `(0|-?[1-9][0-9]*)`
	const fraction = `(-?[0-9]+(?:/[0-9]+)?)`
	pattern := regexp.MustCompile(`\A[A-Za-z][A-Za-z0-9]{0,19} ` + number + ` ` + number + ` ` + fraction + ` ` + fraction + `\z`)
	const bytes = "0123456789-/ +\x00xA.\n"
	counts := map[api.Errno]int{}
	for _, s := range []string{"M2 8 1 3/2 -1", "abcdefghij0123456789 1000 -999 0 -24/25", "m 1 2 -7/10 10", "K1 10000 99999 12/35 0"} {
		for i := range len(s) + 1 {
			near := []string{s[:i], s[i:]}
			for _, c := range []byte(bytes) {
				near = append(near, s[:i]+string(c)+s[i:])
				if i < len(s) {
					near = append(near, s[:i]+string(c)+s[i+1:], s[:i]+s[i+1:])
				}
			}
			for _, x := range near {
				want := reading(pattern, x)
				got, e := tide.Parse(x)
				if e != want {
					t.Errorf("Parse(%q): %v, not %v", x, e, want)
				}
				if told, _ := tide.Print(got); e == api.OK && told != x {
					t.Errorf("Print of Parse(%q): %q", x, told)
				}
				counts[e]++
			}
		}
	}
	if counts[api.OK] < 100 || counts[api.ErrRotor] < 100 || counts[api.ErrTide] < 100 {
		t.Error("too few of a kind", counts)
	}
}

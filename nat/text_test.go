package nat_test

import (
	"math"
	"strconv"
	"strings"
	"testing"

	"slackwater/api"
	"slackwater/nat"
)

// P1.3

func TestShift(t *testing.T) {
	ok := must(t)
	for _, c := range []struct {
		a    []uint32
		n    int
		want []uint32
	}{
		{nil, 0, nil}, {nil, 262144, nil}, {nil, -262144, nil}, {w(5, 6), 0, w(5, 6)},
		{w(1), 31, w(1 << 31)}, {w(1), 32, w(0, 1)}, {w(1), 33, w(0, 2)}, {w(1<<32 - 1), 1, w(1<<32-2, 1)},
		{w(1<<32-1, 1<<32-1), 33, w(0, 1<<32-2, 1<<32-1, 1)}, {w(1), 262143, power(262143)},
		{w(3, 1), 262144 - 64, append(full(8190, 0), 3, 1)}, {full(8192, 1), 31, full(8192, 1<<31)},
		{w(7), -1, w(3)}, {w(7), -2, w(1)}, {w(7), -3, nil}, {w(7), -262144, nil}, {w(0, 2), -33, w(1)},
		{w(1, 2, 3), -32, w(2, 3)}, {w(1<<32-1, 1<<32-1), -33, w(1<<31 - 1)}, {w(1<<32-1, 1<<32-1), -64, nil},
		{power(262143), -262143, w(1)}, {power(262143), -262144, nil}, {full(8192, 1<<32-1), -262143, w(1)},
	} {
		if got := ok(nat.Shift(c.a, c.n)); !same(got, c.want) {
			t.Errorf("Shift of %d words by %d: %d words, not %d", len(c.a), c.n, len(got), len(c.want))
		}
	}
}

func TestShiftRefuses(t *testing.T) {
	for _, c := range []struct {
		a    []uint32
		n    int
		want api.Errno
	}{
		{w(1), 262145, api.ErrArg}, {w(1), -262145, api.ErrArg}, {nil, 262145, api.ErrArg}, {nil, math.MinInt, api.ErrArg},
		{w(1), math.MaxInt, api.ErrArg}, {w(1), math.MinInt, api.ErrArg},
		{w(1), 262144, api.ErrLong}, {w(2), 262143, api.ErrLong}, {full(8192, 1), 32, api.ErrLong}, {full(8192, 1<<31), 1, api.ErrLong},
		{w(1, 0), 1, api.ErrNormal}, {w(1, 0), 262145, api.ErrNormal}, {full(8193, 1), -262145, api.ErrLong}, {full(8193, 0), -1, api.ErrLong},
	} {
		got, e := nat.Shift(c.a, c.n)
		refused(t, "Shift by "+strconv.Itoa(c.n), got, e, c.want)
	}
}

func TestShiftIsAProductOrAQuotient(t *testing.T) {
	ok := must(t)
	d := dice(8)
	for i := range 1000 {
		a, n := d.number(1+i%12), d.below(200)
		if !same(ok(nat.Shift(a, n)), ok(nat.Mul(a, power(n)))) {
			t.Fatal("up", a, n)
		}
		if !same(ok(nat.Shift(a, -n)), ok(quotient(a, power(n)))) {
			t.Fatal("down", a, n)
		}
	}
}

// P1.4

func TestPrintAndParse(t *testing.T) {
	for _, c := range []struct {
		a    []uint32
		text string
	}{
		{nil, "0"}, {w(1), "1"}, {w(10), "10"}, {w(999999999), "999999999"}, {w(1000000000), "1000000000"}, {w(1000000001), "1000000001"},
		{w(4294967295), "4294967295"}, {w(0, 1), "4294967296"}, {w(2808348672, 232830643), "1000000000000000000"},
		{w(1<<32-1, 1<<32-1), "18446744073709551615"}, {w(0, 0, 1), "18446744073709551616"},
		{w(0, 0, 0, 0, 1), "340282366920938463463374607431768211456"},
	} {
		if s := text(t, c.a); s != c.text {
			t.Errorf("Print(%v): %s", c.a, s)
		}
		if a, e := nat.Parse(c.text); !same(a, c.a) || e != api.OK {
			t.Errorf("Parse(%s): %v, %v", c.text, a, e)
		}
	}
}

func TestTextsOfSmallNumbers(t *testing.T) {
	d := dice(9)
	for i := range 20000 {
		x := uint64(i)
		if i >= 5000 {
			x = d.next() >> d.below(64)
		}
		s := strconv.FormatUint(x, 10)
		if got := text(t, nat.Of(x)); got != s {
			t.Fatalf("Print of %d: %s", x, got)
		}
		if a, e := nat.Parse(s); !same(a, nat.Of(x)) || e != api.OK {
			t.Fatalf("Parse of %s: %v, %v", s, a, e)
		}
	}
}

func TestTextsOfPowers(t *testing.T) {
	s := "1"
	for n := range 1500 {
		if got := text(t, power(n)); got != s {
			t.Fatalf("Print of 2^%d: %s", n, got)
		}
		if a, e := nat.Parse(s); !same(a, power(n)) || e != api.OK {
			t.Fatalf("Parse of 2^%d: %v", n, e)
		}
		s = plusText(s, s)
	}
}

func TestPrintRefuses(t *testing.T) {
	for _, c := range []struct {
		a    []uint32
		want api.Errno
	}{
		{w(0), api.ErrNormal}, {w(1, 0), api.ErrNormal}, {full(8193, 1), api.ErrLong}, {full(8193, 0), api.ErrLong},
	} {
		if s, e := nat.Print(c.a); s != "" || e != c.want {
			t.Errorf("Print of %d words: %d bytes, %v", len(c.a), len(s), e)
		}
	}
}

func TestPrintTheGreatest(t *testing.T) {
	s := text(t, full(8192, 1<<32-1))
	if len(s) != 78914 || !strings.HasPrefix(s, "1611325717") || !strings.HasSuffix(s, "5") {
		t.Error(len(s), s[:20], s[len(s)-20:])
	}
}

func TestParseRefuses(t *testing.T) {
	for _, s := range []string{
		"", "-", "-1", "+1", "-0", "00", "007", "01", "1a", "a1", " 1", "1 ", "1 2", "1\n", "1_000", "0x1", "1.0", "1e3", "/", ":", "1:", "1/",
		"\x00", "1\x00", "\xff", "٣", "１", strings.Repeat("0", 65536), strings.Repeat("1", 65535) + "x", "x" + strings.Repeat("1", 65535),
	} {
		a, e := nat.Parse(s)
		refused(t, "Parse of "+strconv.Quote(s[:min(len(s), 9)]), a, e, api.ErrNat)
	}
	for _, s := range []string{strings.Repeat("1", 65537), strings.Repeat("x", 65537), strings.Repeat("0", 70000)} {
		a, e := nat.Parse(s)
		refused(t, "Parse of more than 65,536 bytes", a, e, api.ErrLong)
	}
}

func TestParseTheLongest(t *testing.T) {
	ok := must(t)
	nines := strings.Repeat("9", 65536)
	a := ok(nat.Parse(nines))
	if len(a) != 6804 || text(t, a) != nines {
		t.Error("65,536 nines", len(a))
	}
	// One more is 10^65536: 2^65536 times 5^65536.
	five := w(5)
	for range 16 {
		five = ok(nat.Mul(five, five))
	}
	if !same(ok(nat.Add(a, w(1))), ok(nat.Shift(five, 65536))) {
		t.Error("65,536 nines and 1")
	}
}

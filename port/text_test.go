package port_test

import (
	"math/big"
	"regexp"
	"slices"
	"strconv"
	"strings"
	"testing"

	"slackwater/api"
	"slackwater/port"
	"slackwater/tide"
)

// P14.6
func TestPrintAndParse(t *testing.T) {
	for _, w := range []struct {
		p    api.Port
		text string
	}{
		{h("Hull", q(3, 2)), "port Hull 3/2\n"}, {h("h", q(0, 1)), "port h 0\n"}, {h("port", q(-7, 1)), "port port -7\n"},
		{h("Hull", q(3, 2), m2()), "port Hull 3/2\nM2 2 1 1/2 0\n"},
		{h("abcdefghij0123456789", q(-1, 3), c("port", 1000, -999, g(q(-7, 25), q(24, 25))), m2(), c("m2", 8, 1, z(0, -10))), "port abcdefghij0123456789 -1/3\nport 1000 -999 -7/25 24/25\nM2 2 1 1/2 0\nm2 8 1 0 -10\n"},
		{h("x", r(true, ints(1, 0, 0, 0, 1), ints(0, 1)), m2c()), "port x -340282366920938463463374607431768211457/4294967296\nM2c 2 -1 1/2 0\n"},
	} {
		if s, e := port.Print(w.p); s != w.text || e != api.OK {
			t.Errorf("Print of %v: %q %v", w.p, s, e)
		}
		if got := mustRead(t, w.text); !same(got, w.p) {
			t.Errorf("Parse of %q: %v", w.text, got)
		}
	}
}

// P14.7
func TestTextsAreTheWayBack(t *testing.T) {
	d := dice(9)
	for _, p := range thrown(&d, 100) {
		s, e := port.Print(p)
		if e != api.OK {
			t.Fatal(p.Name, e)
		}
		back := mustRead(t, s)
		if !same(back, p) || !port.Same(back, p) {
			t.Errorf("Parse of Print of %s", p.Name)
		}
		if again, e := port.Print(back); again != s || e != api.OK {
			t.Errorf("Print of Parse of %s", p.Name)
		}
	}
}

// noTexts are texts that are no port's, each with the line that is not as it should be.
func noTexts() map[string]int {
	texts := map[string]int{
		"": 0, "\n": 0, " \n": 0, "\n\n": 0, "port": 0, "port\n": 0, "port \n": 0, "port Hull": 0, "port Hull\n": 0, "port Hull \n": 0, "port Hull 1": 0, "Hull 1\n": 0, "port 1\n": 0, "port  1\n": 0, "port Hull  1\n": 0, "port  Hull 1\n": 0, " port Hull 1\n": 0, "port Hull 1 \n": 0, "port Hull 1 2\n": 0, "Port Hull 1\n": 0, "PORT Hull 1\n": 0, "ports Hull 1\n": 0, "por Hull 1\n": 0, "port\tHull 1\n": 0, "port Hull\t1\n": 0, "port Hull 1\r\n": 0, "port Hull 1\x00\n": 0, "\nport Hull 1\n": 0, "port Hull 1 M2 2 1 1/2 0\n": 0, "M2 2 1 1/2 0\n": 0, "M2 2 1 1/2 0\nport Hull 1\n": 0, "\ufeffport Hull 1\n": 0, "port\nHull\n1\n": 0, "port 1 Hull\n": 0,
		"port Hull 1\n\n": 1, "port Hull 1\n ": 1, "port Hull 1\n \n": 1, "port Hull 1\nport Hull 1\n": 1, "port Hull 1\nM2 2 1 1/2 0": 1, "port Hull 1\nM2 2 1 1/2\n": 1, "port Hull 1\nM2 2 1 1/2 0 \n": 1, "port Hull 1\n M2 2 1 1/2 0\n": 1, "port Hull 1\nM2  2 1 1/2 0\n": 1, "port Hull 1\nM2 2 1 1/2 0\r\n": 1, "port Hull 1\nM2 02 1 1/2 0\n": 1, "port Hull 1\nM2 2 1 2/4 0\n": 1, "port Hull 1\n2M 2 1 1/2 0\n": 1, "port Hull 1\n\nM2 2 1 1/2 0\n": 1, "port Hull 1\nM2": 1, "port Hull 1\nM2 2 1 1/2 0,S2 3 1 0 0\n": 1,
		"port Hull 1\nM2 2 1 1/2 0\n\n": 2, "port Hull 1\nM2 2 1 1/2 0\nx": 2, "port Hull 1\nM2 2 1 1/2 0\nS2 3 1 0 0": 2, "port Hull 1\nM2 2 1 1/2 0\n\nS2 3 1 0 0\n": 2, "port Hull 1\nM2 2 1 1/2 0\nS2 3 1 0\n": 2,
	}
	for _, name := range noNames() {
		if len(name) < 60000 && !strings.Contains(name, "\n") {
			texts["port "+name+" 1\n"], texts["port "+name+" 2/4\nx\n"] = 0, 0
		}
	}
	for _, f := range []string{"", "-", "-0", "00", "07", "+1", "1.5", "1e3", "i", "6/4", "4/2", "3/1", "0/1", "0/5", "1/0", "/", "1/", "/2", "1//2", "1/-2", "1/02", "01/2", "a", "\x00", "１", "\xff"} {
		texts["port Hull "+f+"\n"], texts["port Hull "+f+"\nM2 2 1 1/2 0\n"], texts["port Hull "+f] = 0, 0, 0
		texts["port Hull 1\nM2 2 1 "+f+" 0\n"], texts["port Hull 1\nM2 2 1 0 "+f+"\n"] = 1, 1
	}
	return texts
}

// P14.6: the first line that is not as it should be, missing, or without a byte 10.
func TestParseRefuses(t *testing.T) {
	for s, line := range noTexts() {
		p, f := port.Parse(s)
		if f != (api.Fault{Err: api.ErrPort, At: line}) || !same(p, api.Port{}) {
			t.Errorf("Parse of %q: %v, %s; not at %d", s, f, p.Name, line)
		}
	}
	lines := []string{"port Hull 3/2\n"}
	for _, x := range many(60) {
		s, _ := tide.Print(x)
		lines = append(lines, s+"\n")
	}
	for _, k := range []int{1, 2, 25, 26, 61} {
		for i := range k {
			for _, wrong := range []string{"x\n", "\n", " " + lines[i], strings.Replace(lines[i], " ", "  ", 1), lines[i][:len(lines[i])-1] + " \n"} {
				changed := slices.Clone(lines[:k])
				changed[i] = wrong
				faultAt(t, strings.Join(changed, ""), i)
				// A later line that is wrong, too, changes nothing.
				faultAt(t, strings.Join(changed, "")+"x", i)
			}
		}
		faultAt(t, strings.TrimSuffix(strings.Join(lines[:k], ""), "\n"), k-1)
		faultAt(t, strings.Join(lines[:k], "")+"\n", k)
		faultAt(t, strings.Join(lines[:k], "")+" ", k)
	}
}

func faultAt(t *testing.T, s string, line int) {
	t.Helper()
	p, f := port.Parse(s)
	if f != (api.Fault{Err: api.ErrPort, At: line}) || !same(p, api.Port{}) {
		t.Errorf("Parse of %.60q..: %v, not ErrPort at %d alone", s, f, line)
	}
}

// P14.6: what ratio.Parse or tide.Parse refuses is not read, for whatever reason.
func TestParseOfLinesThatAreRefused(t *testing.T) {
	long := strings.Repeat("1", 30000)
	for _, s := range []string{"port Hull " + long + "\n", "port Hull -" + long + "\nM2 2 1 1/2 0\n", "port Hull 1/" + long + "\nx\n"} {
		faultAt(t, s, 0)
	}
	for _, line := range []string{"M2 2 2 0 0", "M2 0 0 0 0", "M2 1001 1 0 0", "M2 99999 1 0 0", "M2 2 4 1/2 0", "M2 2 1 " + long + " 0", "M2 2 1 0 -1/" + long} {
		faultAt(t, "port Hull 1\n"+line+"\n", 1)
		faultAt(t, "port Hull 1\nS2 3 1 0 0\nS2 3 1 0 0\n"+line+"\n", 3)
	}
}

// P14.6, rule 1: each line by itself ahead of what they come to together.
func TestParseTellsWhatMayNotBe(t *testing.T) {
	text := func(tides []api.Tide) string {
		s := "port Hull 3/2\n"
		for _, x := range tides {
			line, e := tide.Print(x)
			if e != api.OK {
				t.Fatal(e)
			}
			s += line + "\n"
		}
		return s
	}
	told := func(s string, want api.Fault) {
		t.Helper()
		if p, f := port.Parse(s); f != want || !same(p, api.Port{}) {
			t.Errorf("Parse of %.60q..: %v, not %v alone", s, f, want)
		}
	}
	for i := range 24 {
		for j := range i {
			name, turn := many(24), many(24)
			name[i].Name, turn[i].Rotor = name[j].Name, turn[j].Rotor
			told(text(name), api.Fault{Err: api.ErrThere, At: i + 1})
			told(text(turn), api.Fault{Err: api.ErrThere, At: i + 1})
		}
	}
	for _, k := range []int{25, 26, 100, 999} {
		told(text(many(k)), api.Fault{Err: api.ErrLong, At: 0})
		told(text(append([]api.Tide{m2(), m2()}, many(k)...)), api.Fault{Err: api.ErrLong, At: 0})
		told(text(many(k))+"x\n", api.Fault{Err: api.ErrPort, At: k + 1})
	}
	told("port Hull 1\nM2 2 1 0 0\nM2 2 1 0 0\nx\n", api.Fault{Err: api.ErrPort, At: 3})
	told("port Hull 1\nM2 2 1 0 0\nM2 2 1 0 0", api.Fault{Err: api.ErrPort, At: 2})
	if got := mustRead(t, text(many(24))); !same(got, h("Hull", q(3, 2), many(24)...)) {
		t.Error("Parse of 24 constituents")
	}
}

// P14.6: a text of 65,536 bytes is told, and read; one of 65,537 is not.
func TestTextsUpToMaxText(t *testing.T) {
	// Nines over a 1 with noughts have no common divisor.
	below := "/1" + strings.Repeat("0", 10000)
	text := func(name string, last int) string {
		nines := strings.Repeat("9", 10000)
		return "port " + name + " " + nines + below + "\nM2 8 -1 -" + nines + below + " 0\nS2 3 1 " + nines + " " + strings.Repeat("9", last) + "\n"
	}
	room := 65536 - len(text("Hull", 0))
	s := text("Hull", room)
	p := mustRead(t, s)
	if got, e := port.Print(p); len(s) != 65536 || got != s || e != api.OK {
		t.Errorf("Print of 65,536 bytes: %d bytes, %v", len(got), e)
	}
	for key, change := range map[string]func(*api.Port){
		"name":        func(p *api.Port) { p.Name = "Hulls" },
		"mean level":  func(p *api.Port) { p.Mean.Neg = true },
		"tide's name": func(p *api.Port) { p.Tides[1].Name = "M2x" },
		"Re":          func(p *api.Port) { p.Tides[1].Number.Re.Neg = true },
		"list":        func(p *api.Port) { p.Tides = append(p.Tides, c("N2", 4, 1, z(0, 0))) },
	} {
		longer := marked(p)
		if change(&longer); port.Check(longer) != (api.Fault{}) {
			t.Fatal(key)
		}
		if got, e := port.Print(longer); got != "" || e != api.ErrLong {
			t.Errorf("Print with a longer %s: %d bytes, %v", key, len(got), e)
		}
	}
	for _, s := range []string{text("Hulls", room), text("Hull", room+1), s + "\n", s + "x", strings.Repeat("x", 65537), strings.Repeat("\n", 65537), "x" + s, strings.Repeat("port Hull 1\n", 6000)} {
		if got, f := port.Parse(s); f != (api.Fault{Err: api.ErrLong, At: -1}) || !same(got, api.Port{}) {
			t.Errorf("Parse of above 65,536 bytes: %v", f)
		}
	}
	// As many bytes as may be, but no port's.
	faultAt(t, text("Hull", room-1)+"x", 3)
	faultAt(t, strings.Repeat("x", 65536), 0)
	faultAt(t, strings.Repeat("\n", 65536), 0)
	faultAt(t, "port Hull 1\n"+strings.Repeat("\n", 65524), 1)
	// A line whose own text is longer than any, and 24 of these.
	long := g(p.Mean, fraction(new(big.Rat).Neg(rational(p.Mean))))
	for _, k := range []int{2, 24} {
		tides := many(k)
		for i := range tides {
			tides[i].Number = long
		}
		if got, e := port.Print(h("Hull", q(1, 1), tides...)); got != "" || e != api.ErrLong {
			t.Errorf("Print of %d long lines: %d bytes, %v", k, len(got), e)
		}
	}
	huge := r(false, full(2048, 1<<32-1), two(65535))
	if got, e := port.Print(h("Hull", q(1, 1), c("M2", 2, 1, g(huge, huge)))); got != "" || e != api.ErrLong {
		t.Errorf("Print of a line that is too long: %d bytes, %v", len(got), e)
	}
}

// reading is what the document asks of a short text, by patterns and the library's fractions.
func reading(s string) api.Fault {
	const fraction = `(-?[0-9]+(?:/[0-9]+)?)`
	const name = `([A-Za-z][A-Za-z0-9]{0,19})`
	const number = `(0|-?[1-9][0-9]{0,4})`
	head := regexp.MustCompile(`\Aport ` + name + ` ` + fraction + `\z`)
	other := regexp.MustCompile(`\A` + name + ` ` + number + ` ` + number + ` ` + fraction + ` ` + fraction + `\z`)
	lines := strings.Split(s, "\n")
	last := len(lines) - 1
	names, rotors, there := map[string]int{}, map[string]int{}, api.Fault{}
	for i, line := range lines {
		// Behind the last byte 10 stands nothing; else that line has none.
		if i == last && line == "" && i > 0 {
			return there
		}
		words, from := head.FindStringSubmatch(line), 2
		if i > 0 {
			words, from = other.FindStringSubmatch(line), 4
		}
		if i == last || words == nil || !lowest(words[from:]) || i > 0 && !mayBe(words[2], words[3]) {
			return api.Fault{Err: api.ErrPort, At: i}
		}
		if i > 0 {
			rotor := words[2] + " " + words[3]
			if (names[words[1]] > 0 || rotors[rotor] > 0) && there.Err == api.OK {
				there = api.Fault{Err: api.ErrThere, At: i}
			}
			names[words[1]], rotors[rotor] = 1, 1
		}
	}
	return there
}

func lowest(words []string) bool {
	for _, w := range words {
		if f, ok := new(big.Rat).SetString(w); !ok || f.RatString() != w {
			return false
		}
	}
	return true
}

func mayBe(far, near string) bool {
	f, _ := strconv.ParseInt(far, 10, 64)
	n, _ := strconv.ParseInt(near, 10, 64)
	size := max(n, -n)
	return len(far) <= 5 && len(near) <= 5 && f >= 1 && f <= 1000 && size >= 1 && size <= 1000 && f != size && new(big.Int).GCD(nil, nil, big.NewInt(f), big.NewInt(size)).Int64() == 1
}

// P14.6, P14.7: a text with one byte more, less or other is read just if it is a port's own.
func TestParseOfChangedTexts(t *testing.T) {
	const bytes = "0123456789-/ \n+\x00xM2."
	counts := map[api.Errno]int{}
	for _, s := range []string{"port Hull 3/2\nM2 2 1 1/2 0\n", "port abcdefghij0123456789 -7\nM1 1000 -999 0 -24/25\nM2 1000 -99 1 1\nN1 3 2 0 0\n", "port x 0\n"} {
		for i := range len(s) + 1 {
			near := []string{s[:i], s[i:]}
			for _, b := range []byte(bytes) {
				near = append(near, s[:i]+string(b)+s[i:])
				if i < len(s) {
					near = append(near, s[:i]+string(b)+s[i+1:], s[:i]+s[i+1:])
				}
			}
			for _, x := range near {
				want := reading(x)
				p, f := port.Parse(x)
				if f != want {
					t.Errorf("Parse of %q: %v, not %v", x, f, want)
				}
				if told, _ := port.Print(p); f.Err == api.OK && told != x {
					t.Errorf("Print of Parse of %q: %q", x, told)
				}
				counts[f.Err]++
			}
		}
	}
	if counts[api.OK] < 100 || counts[api.ErrPort] < 100 || counts[api.ErrThere] < 5 {
		t.Error("too few of a kind", counts)
	}
}

// Rule 4
func TestWhatIsReadIsNewMemory(t *testing.T) {
	for _, s := range []string{"port Hull 0\n", "port Hull 1\nM2 2 1 1 1\nS2 3 1 1 1\n", "port Hull -3/2\nM2 2 1 -3/2 -3/2\n"} {
		first, second := mustRead(t, s), mustRead(t, s)
		was := marked(second)
		if !scribbled(first) || !same(second, was) {
			t.Errorf("Parse of %q: memory that is not its own", s)
		}
	}
}

package tide_test

import (
	"math"
	"strings"
	"testing"

	"slackwater/api"
	"slackwater/gauss"
	"slackwater/ratio"
	"slackwater/rotor"
	"slackwater/tide"
)

// P13.1: names, by each byte at each place.
func TestName(t *testing.T) {
	for _, s := range []string{"M2", "m2", "A", "Z", "a", "z", "A0", "Z9", "a9", "M", "Hull", "MN4", "abcdefghijklmnopqrst", "A1234567890123456789", strings.Repeat("Z", 20)} {
		if !tide.Name(s) {
			t.Errorf("Name(%q): false", s)
		}
	}
	for _, s := range noNames() {
		if tide.Name(s) {
			t.Errorf("Name(%.60q): true", s)
		}
	}
	const letters = "ABCDEFGHIJKLMNOPQRSTUVWXYZabcdefghijklmnopqrstuvwxyz"
	for b := range 256 {
		s := string([]byte{byte(b)})
		first, later := strings.Contains(letters, s), strings.Contains(letters+"0123456789", s)
		for k := range 20 {
			ahead, behind := strings.Repeat("M", k), strings.Repeat("M", 19-k)
			want := later && (k > 0 || first)
			if tide.Name(ahead+s) != want || tide.Name(ahead+s+behind) != want {
				t.Errorf("Name with the byte %d at the place %d is not %v", b, k, want)
			}
		}
	}
	for k := range 300 {
		if tide.Name(strings.Repeat("x", k)) != (k >= 1 && k <= 20) {
			t.Errorf("Name of %d letters", k)
		}
	}
}

// P13.1, and rule 1: the name's error ahead of the rotor's, that ahead of the number's.
func TestCheck(t *testing.T) {
	for _, a := range some() {
		if e := tide.Check(a); e != api.OK {
			t.Errorf("Check of %s %v: %v", a.Name, a.Rotor, e)
		}
	}
	for key, w := range wrongTides() {
		if e := tide.Check(w.a); e != w.want {
			t.Errorf("Check, wrong by %.60q: %v, not %v", key, e, w.want)
		}
	}
	for far := int32(-3); far <= 40; far++ {
		for near := int32(-40); near <= 40; near++ {
			a := c("M2", far, near, z(0, 1))
			if e := tide.Check(a); e != rotor.Check(a.Rotor) {
				t.Errorf("Check of %v: %v", a.Rotor, e)
			}
		}
	}
}

// P13.1: each field counts, of what may not be, too.
func TestSame(t *testing.T) {
	wrongs := wrongTides()
	tides := some()
	for _, key := range []string{"nothing at all", "Re nothing", "Im 2 over 4", "a rotor a", "Re a Num too long", "Im 0 that is Neg", "Re a rough Den"} {
		w, there := wrongs[key]
		if !there {
			t.Fatal(key)
		}
		tides = append(tides, w.a)
	}
	for i, a := range tides {
		for j, b := range tides {
			if tide.Same(a, b) != (i == j) || tide.Same(marked(a), marked(b)) != (i == j) {
				t.Errorf("Same of the places %d and %d: %v", i, j, i != j)
			}
		}
	}
	for key, change := range changes() {
		for i, a := range tides {
			b := tide.Copy(a)
			change(&b)
			if tide.Same(a, b) || tide.Same(b, a) {
				t.Errorf("Same of the place %d and it with another %s", i, key)
			}
		}
	}
	empty := c("M2", 8, 1, g(r(false, []uint32{}, ints(1)), r(false, []uint32{}, []uint32{})))
	if !tide.Same(empty, c("M2", 8, 1, g(r(false, nil, ints(1)), api.Ratio{}))) {
		t.Error("Same of nil and empty lists: false")
	}
}

// changes change one field each.
func changes() map[string]func(*api.Tide) {
	return map[string]func(*api.Tide){
		"Name":          func(a *api.Tide) { a.Name += "x" },
		"Name, a blank": func(a *api.Tide) { a.Name = " " + a.Name },
		"Far":           func(a *api.Tide) { a.Rotor.Far++ },
		"Near":          func(a *api.Tide) { a.Rotor.Near-- },
		"sign of Near":  func(a *api.Tide) { a.Rotor.Near = -a.Rotor.Near - 5 },
		"sign of Re":    func(a *api.Tide) { a.Number.Re.Neg = !a.Number.Re.Neg },
		"sign of Im":    func(a *api.Tide) { a.Number.Im.Neg = !a.Number.Im.Neg },
		"Re's Num":      func(a *api.Tide) { a.Number.Re.Num = append(a.Number.Re.Num, 0) },
		"Re's Den":      func(a *api.Tide) { a.Number.Re.Den = append(a.Number.Re.Den, 0) },
		"Im's Num":      func(a *api.Tide) { a.Number.Im.Num = append(a.Number.Im.Num, 0) },
		"Im's Den":      func(a *api.Tide) { a.Number.Im.Den = append(a.Number.Im.Den, 1) },
		"words of Re":   func(a *api.Tide) { a.Number.Re.Den = append(ints(7), a.Number.Re.Den...) },
		"words of Im":   func(a *api.Tide) { a.Number.Im.Num = append(ints(7), a.Number.Im.Num...) },
	}
}

// P13.1, rule 4: whatever it is, in memory of its own.
func TestCopy(t *testing.T) {
	tides := some()
	for _, w := range wrongTides() {
		tides = append(tides, w.a)
	}
	for _, x := range tides {
		a := marked(x)
		got := tide.Copy(a)
		if !same(got, x) || !untouched(a, x) {
			t.Errorf("Copy of %.60q %v is another", x.Name, x.Rotor)
		}
		if !scribbled(got) || !untouched(a, x) {
			t.Errorf("Copy of %.60q %v: memory that is not its own", x.Name, x.Rotor)
		}
	}
	part := q(5, 7)
	if got := tide.Copy(c("M2", 8, 1, g(part, part))); !scribbled(got) || !sameRatio(part, q(5, 7)) {
		t.Error("Copy of one fraction twice: memory that is not its own")
	}
}

// P13.2
func TestConj(t *testing.T) {
	ok := must(t)
	for _, w := range []struct{ a, want api.Tide }{
		{m2(), c("M2", 8, -1, g(q(3, 2), q(1, 1)))}, {c("m2", 2, -1, z(0, 0)), c("m2", 2, 1, z(0, 0))}, {c("K1", 1000, 999, z(-5, 0)), c("K1", 1000, -999, z(-5, 0))}, {c("x", 1, -1000, z(0, 7)), c("x", 1, 1000, z(0, -7))},
	} {
		if got := ok(tide.Conj(w.a)); !same(got, w.want) {
			t.Errorf("Conj of %v: %v", w.a, got)
		}
	}
	for key, w := range wrongTides() {
		got, e := tide.Conj(w.a)
		refused(t, "Conj, wrong by "+key[:min(len(key), 40)], got, e, w.want)
	}
}

// P13.4, and Conj held against the layers below.
func TestConjOfConj(t *testing.T) {
	ok := must(t)
	d := dice(13)
	tides := some()
	for range 300 {
		tides = append(tides, d.tide(t))
	}
	for _, a := range tides {
		got := ok(tide.Conj(a))
		r, e := rotor.Conj(a.Rotor)
		n, f := gauss.Conj(a.Number)
		if e != api.OK || f != api.OK || got.Name != a.Name || got.Rotor != r || !sameNumber(got.Number, n) {
			t.Errorf("Conj of %s %v", a.Name, a.Rotor)
		}
		if back := ok(tide.Conj(got)); !same(back, a) || tide.Same(got, a) {
			t.Errorf("Conj of Conj of %s %v", a.Name, a.Rotor)
		}
	}
}

// P13.2
func TestScale(t *testing.T) {
	ok := must(t)
	for _, w := range []struct {
		by   api.Ratio
		want api.Gauss
	}{
		{q(1, 1), g(q(3, 2), q(-1, 1))}, {q(0, 1), z(0, 0)}, {q(1, 2), g(q(3, 4), q(-1, 2))}, {q(-2, 3), g(q(-1, 1), q(2, 3))}, {q(-1, 1), g(q(-3, 2), q(1, 1))}, {q(math.MaxInt64, 1), g(r(false, ints(1<<32-3, 1<<31-1, 1), ints(2)), q(-math.MaxInt64, 1))},
	} {
		if got := ok(tide.Scale(w.by, m2())); !same(got, c("M2", 8, 1, w.want)) {
			t.Errorf("Scale by %v: %v", w.by, got)
		}
	}
	d := dice(31)
	for range 300 {
		a, by := d.tide(t), d.fraction(t)
		re, e := ratio.Mul(by, a.Number.Re)
		im, f := ratio.Mul(by, a.Number.Im)
		if got := ok(tide.Scale(by, a)); e != api.OK || f != api.OK || !same(got, c(a.Name, a.Rotor.Far, a.Rotor.Near, g(re, im))) {
			t.Fatalf("Scale of %s %v by %v", a.Name, a.Rotor, by)
		}
	}
}

// P13.2, rule 1: the fraction's error, then Check's, then what is too long.
func TestScaleRefuses(t *testing.T) {
	long := greatest()
	for key, w := range wrong() {
		for _, a := range []api.Tide{m2(), {}, c("2M", 8, 1, z(1, 0)), c("M2", 1, 1, z(1, 0)), c("M2", 8, 1, api.Gauss{}), c("M2", 8, 1, g(r(false, full(2049, 1), ints(1)), q(1, 1))), c("M2", 8, 1, g(long, long))} {
			got, e := tide.Scale(w.a, a)
			refused(t, "Scale by "+key, got, e, w.want)
		}
	}
	for key, w := range wrongTides() {
		for _, by := range []api.Ratio{q(0, 1), q(1, 1), q(-1, 2), long} {
			got, e := tide.Scale(by, w.a)
			refused(t, "Scale, wrong by "+key[:min(len(key), 40)], got, e, w.want)
		}
	}
	small := r(false, ints(1), full(2048, 1<<32-1))
	for key, w := range map[string]struct {
		by api.Ratio
		a  api.Gauss
	}{
		"Re's Num": {q(2, 1), g(long, q(0, 1))}, "Im's Num": {q(-2, 1), g(q(1, 1), opposite(long))}, "Re's Den": {q(1, 2), g(small, q(0, 1))}, "Im's Den": {q(-1, 2), g(q(0, 1), small)}, "both": {long, g(long, long)}, "Den of both": {small, g(small, small)},
	} {
		got, e := tide.Scale(w.by, c("M2", 8, 1, w.a))
		refused(t, "Scale with too long a "+key, got, e, api.ErrLong)
	}
	// A common divisor is taken out ahead of looking how long it is.
	if got := must(t)(tide.Scale(small, c("M2", 8, 1, g(long, opposite(long))))); !same(got, c("M2", 8, 1, z(1, -1))) {
		t.Error("Scale of the greatest by one over it")
	}
	if got := must(t)(tide.Scale(q(0, 1), c("M2", 8, 1, g(long, small)))); !same(got, c("M2", 8, 1, z(0, 0))) {
		t.Error("Scale of the greatest by 0")
	}
}

// Rule 4
func TestAnswersAreNewMemory(t *testing.T) {
	for _, x := range some() {
		a, b := marked(x), marked(m2())
		conj, e := tide.Conj(a)
		if e != api.OK || !scribbled(conj) || !untouched(a, x) {
			t.Errorf("Conj of %s %v changes or hands out its argument", x.Name, x.Rotor)
		}
		for _, y := range []api.Ratio{q(0, 1), q(1, 1), q(-1, 1), q(3, 1)} {
			by := markedRatio(y)
			scaled, _ := tide.Scale(by, a)
			if !scribbled(scaled) || !untouched(a, x) || !untouchedRatio(by, y) {
				t.Errorf("Scale of %s %v changes or hands out an argument", x.Name, x.Rotor)
			}
		}
		_, _ = tide.Print(a)
		_, _ = tide.Check(a), tide.Same(a, b)
		if !untouched(a, x) || !untouched(b, m2()) {
			t.Errorf("a call of %s %v changes its argument", x.Name, x.Rotor)
		}
	}
	for _, s := range []string{"M2 8 1 0 0", "M2 8 1 1 1", "M2 8 1 -3/2 -3/2"} {
		first, second := must(t)(tide.Parse(s)), must(t)(tide.Parse(s))
		was := tide.Copy(second)
		if !scribbled(first) || !same(second, was) {
			t.Errorf("Parse of %s: memory that is not its own", s)
		}
	}
}

// Parts, and arguments, that are one memory are reckoned as any.
func TestOneMemoryInSeveralPlaces(t *testing.T) {
	part := r(true, ints(3, 4, 5), ints(0, 2))
	shared := markedRatio(part)
	a := c("M2", 8, 1, g(shared, shared))
	if got := must(t)(tide.Conj(a)); !same(got, c("M2", 8, -1, g(part, opposite(part)))) || !scribbled(got) || !untouchedRatio(shared, part) {
		t.Error("Conj of one fraction twice")
	}
	square, e := ratio.Mul(part, part)
	if got := must(t)(tide.Scale(shared, a)); e != api.OK || !same(got, c("M2", 8, 1, g(square, square))) || !scribbled(got) || !untouchedRatio(shared, part) {
		t.Error("Scale of one fraction thrice")
	}
}

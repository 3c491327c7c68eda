package port_test

import (
	"slices"
	"strings"
	"testing"

	"slackwater/api"
	"slackwater/port"
)

// P14.1
func TestCheck(t *testing.T) {
	for _, p := range some() {
		if f := port.Check(p); f != (api.Fault{}) {
			t.Errorf("Check of %s: %v", p.Name, f)
		}
	}
	for key, w := range wrongPorts() {
		if f := port.Check(w.p); f != w.want {
			t.Errorf("Check, wrong by %s: %v, not %v", key, f, w.want)
		}
	}
	for k := range 30 {
		want := api.Fault{}
		if k > 24 {
			want = api.Fault{Err: api.ErrLong, At: -1}
		}
		if f := port.Check(h("Hull", q(1, 1), many(k)...)); f != want {
			t.Errorf("Check of %d constituents: %v", k, f)
		}
	}
}

// P14.1: a name or a rotor twice, at each two places.
func TestCheckTellsWhatIsThere(t *testing.T) {
	for i := range 24 {
		for j := range i {
			name, turn, both := many(24), many(24), many(24)
			name[i].Name, turn[i].Rotor = name[j].Name, turn[j].Rotor
			both[i].Name, both[i].Rotor = both[j].Name, both[(j+1)%i].Rotor
			for key, tides := range map[string][]api.Tide{"name": name, "rotor": turn, "name and another one's rotor": both} {
				if f := port.Check(h("Hull", q(1, 1), tides...)); f != (api.Fault{Err: api.ErrThere, At: i}) {
					t.Errorf("Check with the %s of %d at %d: %v", key, j, i, f)
				}
			}
		}
	}
	// A port's own name, other capitals and the conjugate rotor are not there already.
	for _, tides := range [][]api.Tide{{m2(), m2c()}, {m2(), c("m2", 1, 2, z(1, 0))}, {c("Hull", 2, 1, z(1, 0))}, {m2(), c("M", 4, 1, z(1, 0)), c("M20", 4, -1, z(1, 0))}} {
		if f := port.Check(h("Hull", q(1, 1), tides...)); f != (api.Fault{}) {
			t.Errorf("Check of %v: %v", tides, f)
		}
	}
}

// P14.1: the Err of Check's fault stands ahead of all other errors.
func TestCheckStandsAhead(t *testing.T) {
	for key, w := range wrongPorts() {
		for _, x := range []api.Tide{m2(), {}, c("W", 1, 1, api.Gauss{})} {
			p, e := port.With(w.p, x)
			refused(t, "With, wrong by "+key, p, e, w.want.Err)
		}
		for _, name := range []string{"M2", "none", ""} {
			p, e := port.Without(w.p, name)
			refused(t, "Without, wrong by "+key, p, e, w.want.Err)
		}
		p, e := port.Conj(w.p)
		refused(t, "Conj, wrong by "+key, p, e, w.want.Err)
		for _, by := range []int{0, 1, 5000, -5000} {
			p, e := port.Moved(w.p, by)
			refused(t, "Moved, wrong by "+key, p, e, w.want.Err)
		}
		if is, e := port.Real(w.p); is || e != w.want.Err {
			t.Errorf("Real, wrong by %s: %v %v", key, is, e)
		}
		if s, e := port.Print(w.p); s != "" || e != w.want.Err {
			t.Errorf("Print, wrong by %s: %.60q %v", key, s, e)
		}
	}
}

// P14.2: ports that may not be, too.
func TestSame(t *testing.T) {
	ports := some()
	for _, key := range []string{"nothing at all", "name 1", "mean level, 2 over 4", "mean level, 0 that is Neg", "constituent nothing at all at 1", "constituent rotor 1 at 2", "constituent Re, 2 over 4 at 0", "constituents 25", "mean level, a Num too long"} {
		w, there := wrongPorts()[key]
		if !there {
			t.Fatal(key)
		}
		ports = append(ports, w.p)
	}
	for i, a := range ports {
		for j, b := range ports {
			if port.Same(a, b) != (i == j) || port.Same(marked(a), marked(b)) != (i == j) {
				t.Errorf("Same of the places %d and %d: %v", i, j, i != j)
			}
		}
	}
	for key, change := range changes() {
		for _, a := range ports {
			b := marked(a)
			if change(&b); same(a, b) {
				continue
			}
			if port.Same(a, b) || port.Same(b, a) {
				t.Errorf("Same of %.60q and it with another %s", a.Name, key)
			}
		}
	}
	empty := api.Port{Name: "Hull", Mean: r(false, ints(), ints(1)), Tides: []api.Tide{}}
	if !port.Same(empty, h("Hull", r(false, nil, ints(1)))) {
		t.Error("Same of nil and empty lists: false")
	}
}

// changes change one field each, where it is there.
func changes() map[string]func(*api.Port) {
	last := func(change func(*api.Tide)) func(*api.Port) {
		return func(p *api.Port) {
			if k := len(p.Tides); k > 0 {
				change(&p.Tides[k-1])
			}
		}
	}
	return map[string]func(*api.Port){
		"Name":         func(p *api.Port) { p.Name += "x" },
		"sign":         func(p *api.Port) { p.Mean.Neg = !p.Mean.Neg },
		"Num":          func(p *api.Port) { p.Mean.Num = append(p.Mean.Num, 0) },
		"Den":          func(p *api.Port) { p.Mean.Den = append(ints(3), p.Mean.Den...) },
		"length":       func(p *api.Port) { p.Tides = append(p.Tides, m2()) },
		"empty one":    func(p *api.Port) { p.Tides = append(p.Tides, api.Tide{}) },
		"shorter list": func(p *api.Port) { p.Tides = p.Tides[:max(0, len(p.Tides)-1)] },
		"order":        func(p *api.Port) { slices.Reverse(p.Tides) },
		"tide's Name":  last(func(x *api.Tide) { x.Name += "x" }),
		"Far":          last(func(x *api.Tide) { x.Rotor.Far++ }),
		"Near":         last(func(x *api.Tide) { x.Rotor.Near-- }),
		"Re's sign":    last(func(x *api.Tide) { x.Number.Re.Neg = !x.Number.Re.Neg }),
		"Re's Num":     last(func(x *api.Tide) { x.Number.Re.Num = append(x.Number.Re.Num, 0) }),
		"Re's Den":     last(func(x *api.Tide) { x.Number.Re.Den = append(x.Number.Re.Den, 7) }),
		"Im's sign":    last(func(x *api.Tide) { x.Number.Im.Neg = !x.Number.Im.Neg }),
		"Im's Num":     last(func(x *api.Tide) { x.Number.Im.Num = append(ints(7), x.Number.Im.Num...) }),
		"Im's Den":     last(func(x *api.Tide) { x.Number.Im.Den = append(x.Number.Im.Den, 0) }),
	}
}

// P14.2: of ports that may not be the first of several, of names that are none, too.
func TestFind(t *testing.T) {
	full := h("Full", q(1, 24), many(24)...)
	for i, x := range full.Tides {
		if at := port.Find(full, x.Name); at != i {
			t.Errorf("Find of %s: %d", x.Name, at)
		}
	}
	for _, name := range []string{"", "T", "t0", "T00", "T24", "T1 ", " T1", "Full", strings.Repeat("T", 65537)} {
		if at := port.Find(full, name); at != -1 {
			t.Errorf("Find of %.60q: %d", name, at)
		}
	}
	rough := h("", api.Ratio{}, m2(), c("", 1, 1, api.Gauss{}), c("S2", 0, 0, api.Gauss{}), m2(), c("S2", 3, 1, z(0, 0)), api.Tide{}, c("a b", 2, 1, z(0, 0)))
	for name, want := range map[string]int{"M2": 0, "": 1, "S2": 2, "a b": 6, "K1": -1} {
		if at := port.Find(rough, name); at != want {
			t.Errorf("Find of %q in a port that may not be: %d", name, at)
		}
	}
	if at := port.Find(h("Long", q(0, 1), many(999)...), "T998"); at != 998 {
		t.Errorf("Find in a list that is too long: %d", at)
	}
	if port.Find(api.Port{}, "") != -1 || port.Find(h("Hull", q(3, 2)), "M2") != -1 {
		t.Error("Find in a port without constituents")
	}
}

// P14.3
func TestWith(t *testing.T) {
	ok := must(t)
	p := h("Hull", q(3, 2))
	for i, x := range many(24) {
		p = ok(port.With(p, x))
		if !same(p, h("Hull", q(3, 2), many(i+1)...)) {
			t.Fatalf("With of %d constituents", i)
		}
	}
	if got := ok(port.With(h("Hull", q(3, 2), m2()), m2c())); !same(got, h("Hull", q(3, 2), m2(), m2c())) {
		t.Errorf("With of the conjugate: %v", got)
	}
}

// P14.3, rule 1: the constituent's error; one that is there; 24 of them.
func TestWithRefuses(t *testing.T) {
	ports := []api.Port{h("Hull", q(3, 2)), h("Hull", q(3, 2), m2()), h("Full", q(1, 24), many(24)...)}
	for key, w := range wrongTides() {
		for _, p := range ports {
			got, e := port.With(p, w.a)
			refused(t, "With of "+key, got, e, w.want)
		}
	}
	// A name, or a rotor, that is there counts behind what is wrong in the constituent.
	for _, w := range []wrongTide{{c("T1", 1, 1, z(1, 0)), api.ErrRotor}, {c("T1", 2, 1, api.Gauss{}), api.ErrNormal}, {c("1T", 2, 1, z(1, 0)), api.ErrName}} {
		got, e := port.With(h("Hull", q(3, 2), many(24)...), w.a)
		refused(t, "With of a wrong one that is there", got, e, w.want)
	}
	for _, k := range []int{1, 2, 23, 24} {
		for i, x := range many(k) {
			for key, y := range map[string]api.Tide{"all": x, "name": c(x.Name, 999, 1000, z(5, 5)), "rotor": c("New", x.Rotor.Far, x.Rotor.Near, z(5, 5)), "name, and another one's rotor": c(x.Name, many(k)[k-1-i].Rotor.Far, 1, z(0, 0))} {
				got, e := port.With(h("Hull", q(3, 2), many(k)...), y)
				refused(t, "With of the "+key+" that is there", got, e, api.ErrThere)
			}
		}
	}
	got, e := port.With(h("Full", q(1, 24), many(24)...), c("New", 999, 1000, z(5, 5)))
	refused(t, "With of a 25th", got, e, api.ErrLong)
}

// P14.3
func TestWithout(t *testing.T) {
	ok := must(t)
	for _, k := range []int{1, 2, 3, 24} {
		for i, x := range many(k) {
			got := ok(port.Without(h("Hull", q(3, 2), many(k)...), x.Name))
			if want := slices.Delete(many(k), i, i+1); !same(got, h("Hull", q(3, 2), want...)) {
				t.Errorf("Without of the place %d of %d", i, k)
			}
		}
	}
	for _, p := range some() {
		for _, name := range append(noNames(), "S2", "m2", "M", "M2cc", p.Name) {
			got, e := port.Without(p, name)
			refused(t, "Without of no constituent", got, e, api.ErrMissing)
		}
	}
}

// P14.7: Without of With gives back; With of Without does, where it was the last one.
func TestWithoutOfWith(t *testing.T) {
	ok := must(t)
	d := dice(14)
	for _, p := range thrown(&d, 100) {
		x := api.Tide{Name: "New", Rotor: d.rotor(), Number: g(d.fraction(), d.fraction())}
		with, e := port.With(p, x)
		if e != api.OK {
			continue
		}
		if port.Find(with, "New") != len(p.Tides) || !same(ok(port.Without(with, "New")), p) {
			t.Errorf("Without of With of %s", p.Name)
		}
		if again := ok(port.With(ok(port.Without(with, "New")), x)); !same(again, with) {
			t.Errorf("With of Without of %s", p.Name)
		}
	}
}

// thrown are some ports, and so many that are thrown.
func thrown(d *dice, k int) []api.Port {
	ports := some()
	for range k {
		ports = append(ports, d.port())
	}
	return ports
}

// Rule 4: answers are new memory, and what is handed in stays as it is.
func TestAnswersAreNewMemory(t *testing.T) {
	x := c("New", 999, 1000, g(q(5, 3), q(-4, 3)))
	calls := map[string]func(p api.Port, x api.Tide) (api.Port, api.Errno){
		"With":    port.With,
		"Without": func(p api.Port, _ api.Tide) (api.Port, api.Errno) { return port.Without(p, p.Tides[0].Name) },
		"Without the last": func(p api.Port, _ api.Tide) (api.Port, api.Errno) {
			return port.Without(p, p.Tides[len(p.Tides)-1].Name)
		},
		"Without of none": func(p api.Port, _ api.Tide) (api.Port, api.Errno) { return port.Without(p, "none") },
		"Conj":            func(p api.Port, _ api.Tide) (api.Port, api.Errno) { return port.Conj(p) },
		"Moved by 0":      func(p api.Port, _ api.Tide) (api.Port, api.Errno) { return port.Moved(p, 0) },
		"Moved by 3":      func(p api.Port, _ api.Tide) (api.Port, api.Errno) { return port.Moved(p, 3) },
		"Real": func(p api.Port, _ api.Tide) (api.Port, api.Errno) {
			_, e := port.Real(p)
			return api.Port{}, e
		},
		"Print": func(p api.Port, _ api.Tide) (api.Port, api.Errno) {
			_, e := port.Print(p)
			return api.Port{}, e
		},
		"Check, Same and Find": func(p api.Port, x api.Tide) (api.Port, api.Errno) {
			_, _, _ = port.Check(p), port.Same(p, p), port.Find(p, x.Name)
			return api.Port{}, api.OK
		},
	}
	for _, was := range some() {
		for key, call := range calls {
			if len(was.Tides) == 0 && strings.HasPrefix(key, "Without") {
				continue
			}
			p, y := marked(was), markedTide(x)
			got, _ := call(p, y)
			if !scribbled(got) || !untouched(p, was) || !untouchedTide(y, x) {
				t.Errorf("%s of %s changes or hands out what was handed in, or its lists share memory", key, was.Name)
			}
		}
	}
}

// Fractions that are one memory are told as any, each in memory of its own.
func TestOneMemoryInSeveralPlaces(t *testing.T) {
	part := q(5, 7)
	was := h("Hull", q(5, 7), c("M2", 2, 1, g(q(5, 7), q(5, 7))), c("m2", 2, -1, g(q(5, 7), q(5, 7))))
	p := h("Hull", part, c("M2", 2, 1, g(part, part)), c("m2", 2, -1, g(part, part)))
	for key, call := range map[string]func() (api.Port, api.Errno){
		"With":    func() (api.Port, api.Errno) { return port.With(p, c("New", 3, 1, g(part, part))) },
		"Without": func() (api.Port, api.Errno) { return port.Without(p, "M2") },
		"Conj":    func() (api.Port, api.Errno) { return port.Conj(p) },
		"Moved":   func() (api.Port, api.Errno) { return port.Moved(p, 0) },
	} {
		if got := must(t)(call()); !scribbled(got) || !same(p, was) {
			t.Errorf("%s of one memory in several places", key)
		}
	}
}

package exact_test

import (
	"testing"

	"slackwater/api"
	"slackwater/exact"
)

// short are ports whose heights at early ticks are told fast.
func short() []api.Port {
	return []api.Port{h("Still", q(3, 2)), h("Nought", q(0, 1)), h("H", q(-1, 1), m2()), h("h9", q(7, 3), m2(), m2c()), h("z", q(0, 1), c("a", 3, 1, z(0, 0))), h("Full", q(1, 24), many(24)...), h("Long", greatest())}
}

// Rule 4: what is told is new memory.
func TestAnswersAreNewMemory(t *testing.T) {
	for _, p := range short() {
		for _, at := range []int{0, 1, 2} {
			was := marked(p)
			x, y := must(t)(exact.At(p, at)), must(t)(exact.At(p, at))
			want := markedRatio(y)
			if !scribbled(x) || !sameRatio(y, want) || !same(p, was) {
				t.Errorf("At %d of %s: memory that is not its own", at, p.Name)
			}
			s, u := mustBoth(t)(exact.Sum(p, at)), mustBoth(t)(exact.Sum(p, at))
			both := g(markedRatio(u.Re), markedRatio(u.Im))
			if !scribbled(s.Re, s.Im) || !sameGauss(u, both) || !same(p, was) {
				t.Errorf("Sum at %d of %s: memory that is not its own", at, p.Name)
			}
			for _, x := range p.Tides {
				n, m := mustBoth(t)(exact.Number(x, at)), mustBoth(t)(exact.Number(x, at))
				both := g(markedRatio(m.Re), markedRatio(m.Im))
				if !scribbled(n.Re, n.Im) || !sameGauss(m, both) || !same(p, was) {
					t.Errorf("Number of %s at %d: memory that is not its own", x.Name, at)
				}
			}
		}
		was := marked(p)
		l, want := mustAll(t)(exact.Span(p, 0, 4)), mustAll(t)(exact.Span(p, 0, 4))
		again := mustAll(t)(exact.Span(p, 0, 4))
		if !scribbled(l[:cap(l)]...) || !sameRatios(again, want) || !same(p, was) {
			t.Errorf("Span of %s: memory that is not its own", p.Name)
		}
		each := exact.Each(p, 0, 4)
		if l := gone(t, each, 0); !scribbled(l...) || !sameRatios(gone(t, each, 0), want) || !same(p, was) {
			t.Errorf("Each of %s: memory that is not its own", p.Name)
		}
	}
}

// Rule 4: what is handed in stays as it is, its spare room too.
func TestArgumentsStayAsTheyAre(t *testing.T) {
	ports := short()
	for _, w := range []string{"Re", "products on the way", "Im alone, and Re is not"} {
		ports = append(ports, h("Long", q(1, 2), m2c(), tooLong()[w]))
	}
	ports = append(ports, h("1", q(1, 2), m2()), h("H", q(1, 2), m2(), m2()))
	for _, p := range ports {
		used := marked(p)
		for _, at := range []int{0, 1, 2, -1} {
			exact.At(used, at)
			exact.Sum(used, at)
			for _, x := range used.Tides {
				exact.Number(x, at)
			}
		}
		exact.Span(used, 0, 3)
		for range exact.Each(used, 0, 3) {
			continue
		}
		exact.Ends(used, 0, 3)
		if !untouched(used, p) {
			t.Errorf("%s is not as it was", p.Name)
		}
	}
}

// One memory may stand in several places of what is handed in.
func TestOneMemoryInSeveralPlaces(t *testing.T) {
	f := q(-7, 25)
	shared := h("Shared", f, c("a", 2, 1, g(f, f)), c("b", 3, 1, g(f, f)), c("d", 2, -1, g(f, f)))
	apart := marked(shared)
	for at := range 5 {
		if !sameRatio(must(t)(exact.At(shared, at)), must(t)(exact.At(apart, at))) || !sameGauss(mustBoth(t)(exact.Sum(shared, at)), mustBoth(t)(exact.Sum(apart, at))) {
			t.Errorf("at %d", at)
		}
	}
	one := r(false, ints(1), nil)
	one.Den = one.Num
	unit := h("Unit", one, c("a", 2, 1, g(one, one)))
	want := fractions(levels(h("Unit", q(1, 1), c("a", 2, 1, z(1, 1))), 0, 4))
	if got := mustAll(t)(exact.Span(unit, 0, 4)); !sameRatios(got, want) {
		t.Error("Num and Den in one memory")
	}
}

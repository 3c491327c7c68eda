package gauss_test

import (
	"math"
	"slices"
	"testing"

	"slackwater/api"
	"slackwater/gauss"
	"slackwater/ratio"
)

// P4.1

func TestCheck(t *testing.T) {
	for name, c := range wrongNumbers() {
		if e := gauss.Check(c.a); e != c.want {
			t.Errorf("Check of %s: %v, not %v", name, e, c.want)
		}
	}
	greatest := full(2048, 1<<32-1)
	for _, a := range append(smalls(),
		g(r(false, ints(), ints(1)), r(false, nil, ints(1))), g(r(false, greatest, two(65535)), r(true, two(65535), greatest)), g(q(1, 1), r(true, ints(1), greatest)),
	) {
		if e := gauss.Check(a); e != api.OK {
			t.Errorf("Check of %s: %v", sizes(a), e)
		}
	}
}

func TestInt(t *testing.T) {
	ok := must(t)
	numbers := []int64{0, 1, -1, 2, 10, math.MaxUint32, -math.MaxUint32, 1 << 32, -1 << 32, math.MaxInt64, math.MinInt64 + 1, math.MinInt64}
	for _, re := range numbers {
		for _, im := range numbers {
			if got := ok(gauss.Int(re, im), api.OK); !same(got, z(re, im)) {
				t.Errorf("Int of %d and %d: %v", re, im, got)
			}
		}
	}
}

func TestSame(t *testing.T) {
	all := append(smalls(), g(q(1, 2), q(1, 3)), g(q(1, 3), q(1, 2)), g(q(-1, 2), q(1, 3)), g(q(1, 2), q(-1, 3)), g(q(2, 1), q(1, 3)), g(q(1, 2), q(3, 1)), z(2, 1),
		g(r(false, full(2048, 7), ints(1)), q(0, 1)), g(r(false, full(2047, 7), ints(1)), q(0, 1)))
	for i, a := range all {
		for j, b := range all {
			if got := gauss.Same(a, copyOf(b)); got != (i == j) {
				t.Errorf("Same of the places %d and %d: %v", i, j, got)
			}
		}
	}
	if !gauss.Same(g(r(false, nil, ints(1)), q(1, 1)), g(r(false, ints(), ints(1)), q(1, 1))) {
		t.Error("Same of a nil and an empty list")
	}
	for name, c := range wrongNumbers() {
		if gauss.Same(c.a, c.a) || gauss.Same(c.a, copyOf(c.a)) || gauss.Same(c.a, z(0, 0)) || gauss.Same(z(0, 0), c.a) || gauss.Same(g(q(1, 2), q(0, 1)), c.a) {
			t.Errorf("Same of %s", name)
		}
	}
}

func TestZero(t *testing.T) {
	for _, a := range []api.Gauss{z(0, 0), gauss.Int(0, 0), g(r(false, ints(), ints(1)), r(false, nil, ints(1)))} {
		if !gauss.Zero(a) {
			t.Errorf("Zero of %v", a)
		}
	}
	for _, a := range smalls()[1:] {
		if gauss.Zero(a) {
			t.Errorf("Zero of %v", a)
		}
	}
	for name, c := range wrongNumbers() {
		if gauss.Zero(c.a) {
			t.Errorf("Zero of %s", name)
		}
	}
	for name, c := range wrong() {
		if gauss.Zero(g(q(0, 1), c.a)) || gauss.Zero(g(c.a, q(0, 1))) || gauss.Zero(g(c.a, c.a)) {
			t.Errorf("Zero of 0 and %s", name)
		}
	}
}

// copyOf is a number in other memory.
func copyOf(a api.Gauss) api.Gauss { return g(copyOfRatio(a.Re), copyOfRatio(a.Im)) }

func copyOfRatio(a api.Ratio) api.Ratio { return r(a.Neg, slices.Clone(a.Num), slices.Clone(a.Den)) }

// Answers are new memory, and what is handed in stays as it is, its spare room too.

// roomy is a list in memory of its own with marked words behind it.
func roomy(words []uint32) []uint32 {
	return append(slices.Clone(words), 77, 78, 79)[:len(words)]
}

// marked is a number all of whose lists are so.
func marked(a api.Gauss) api.Gauss { return g(markedRatio(a.Re), markedRatio(a.Im)) }

func markedRatio(a api.Ratio) api.Ratio { return r(a.Neg, roomy(a.Num), roomy(a.Den)) }

func stands(words, was []uint32) bool {
	return slices.Equal(words, was) && slices.Equal(words[len(was):len(was)+3], ints(77, 78, 79))
}

func untouched(a, was api.Gauss) bool {
	return untouchedRatio(a.Re, was.Re) && untouchedRatio(a.Im, was.Im)
}

func untouchedRatio(a, was api.Ratio) bool {
	return a.Neg == was.Neg && stands(a.Num, was.Num) && stands(a.Den, was.Den)
}

// scribbled writes over an answer's lists and their spare room one by one, and tells whether the others stayed as they were.
func scribbled(a api.Gauss) bool {
	lists := [][]uint32{a.Re.Num, a.Re.Den, a.Im.Num, a.Im.Den}
	for i, words := range lists {
		var was [][]uint32
		for _, other := range lists {
			was = append(was, slices.Clone(other[:cap(other)]))
		}
		for j := range words[:cap(words)] {
			words[:cap(words)][j] = uint32(12345 + i)
		}
		for j, other := range lists {
			if j != i && !slices.Equal(other[:cap(other)], was[j]) {
				return false
			}
		}
	}
	return true
}

func TestAnswersAreNewMemory(t *testing.T) {
	for _, x := range smalls() {
		for call, f := range ofOne() {
			a := marked(x)
			got, e := f(a)
			if e != api.OK || !scribbled(got) || !untouched(a, x) {
				t.Errorf("%s of %v changes or hands out its argument, or its lists share memory", call, x)
			}
		}
		a := marked(x)
		_, _ = gauss.Print(a)
		_ = gauss.Zero(a)
		_ = gauss.Check(a)
		if !untouched(a, x) {
			t.Errorf("a call of %v changes its argument", x)
		}
		for _, y := range smalls() {
			for call, f := range ofTwo() {
				a, b := marked(x), marked(y)
				got, _ := f(a, b)
				if !scribbled(got) || !untouched(a, x) || !untouched(b, y) {
					t.Errorf("%s of %v and %v changes or hands out an argument, or its lists share memory", call, x, y)
				}
			}
			a, b, scale := marked(x), marked(y), markedRatio(y.Re)
			_ = gauss.Same(a, b)
			got, e := gauss.Scale(scale, a)
			if e != api.OK || !scribbled(got) || !untouchedRatio(scale, y.Re) || !untouched(a, x) || !untouched(b, y) {
				t.Errorf("Scale or Same of %v and %v changes or hands out an argument, or its lists share memory", x, y)
			}
		}
	}
}

func TestWhatIsMadeOrReadIsNewMemory(t *testing.T) {
	for _, x := range []int64{0, 1, -7, math.MinInt64} {
		if !scribbled(gauss.Int(x, x)) || !same(gauss.Int(x, x), z(x, x)) {
			t.Errorf("Int of %d: the lists share memory", x)
		}
	}
	for _, s := range []string{"0 0", "1 1", "-5 -5", "1/2 1/2", "-340282366920938463463374607431768211457/4294967296 0"} {
		first, e := gauss.Parse(s)
		was := copyOf(first)
		if e != api.OK || !scribbled(first) {
			t.Errorf("Parse of %s: the lists share memory", s)
		}
		if second, e := gauss.Parse(s); e != api.OK || !same(second, was) {
			t.Errorf("Parse of %s again: %v %v", s, second, e)
		}
	}
}

// Parts, and arguments, that are one memory are reckoned as any.
func TestOneMemoryInSeveralPlaces(t *testing.T) {
	ok := must(t)
	part := r(true, ints(3, 4, 5), ints(0, 2))
	shared := markedRatio(part)
	a := g(shared, shared)
	for call, want := range map[string]api.Gauss{
		"Add": g(r(true, ints(3, 4, 5), ints(0, 1)), r(true, ints(3, 4, 5), ints(0, 1))), "Sub": z(0, 0), "Mul": g(q(0, 1), r(false, ints(9, 24, 46, 40, 25), ints(0, 0, 2))), "Quo": z(1, 0),
	} {
		got := ok(ofTwo()[call](a, a))
		if !same(got, want) || !scribbled(got) || !untouchedRatio(shared, part) {
			t.Errorf("%s of a number and itself: %s", call, sizes(got))
		}
	}
	for call, f := range ofOne() {
		if got, e := f(a); e != api.OK || !scribbled(got) || !untouchedRatio(shared, part) {
			t.Errorf("%s of one fraction twice: %v", call, e)
		}
	}
	scaled := ok(gauss.Scale(shared, a))
	if want := must(t)(gauss.Mul(g(part, q(0, 1)), g(part, part))); !same(scaled, want) || !scribbled(scaled) || !untouchedRatio(shared, part) {
		t.Error("Scale of one fraction thrice")
	}
	if !gauss.Same(a, g(part, part)) || gauss.Zero(a) || ratio.Same(shared, q(1, 1)) {
		t.Error("Same of one fraction twice")
	}
}

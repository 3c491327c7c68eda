package nodal_test

import (
	"math"
	"strings"
	"testing"

	"slackwater/api"
	"slackwater/argument"
	"slackwater/nodal"
	"slackwater/turn"
)

const (
	top    = api.MaxTick
	circle = 3600000
)

// a line of the document's table, a name each.
type line struct {
	name      string
	c0, c1, c float64
}

func lines() []line {
	return []line{
		{"K1", 1.006, 0.115, -89000}, {"K2", 1.024, 0.286, -177000}, {"M2", 1, -0.037, -21000}, {"Mf", 1.043, 0.414, -237000}, {"Mm", 1, -0.13, 0},
		{"N2", 1, -0.037, -21000}, {"O1", 1.009, 0.187, 108000}, {"P1", 1, 0, 0}, {"Q1", 1.009, 0.187, 108000}, {"S2", 1, 0, 0},
	}
}

// noNames are none of the table's, some of them known to doodson.
func noNames() []string {
	return []string{"", " ", "M4", "m2", "L2", "MS4", "N2x", "Sa", "Ssa", "M", "2", "M2 ", " M2", "M22", "M2\x00", "k1", "k2", "n2", "o1", "p1", "q1", "s2", "mf", "mm", "MF", "MM", "K3", "O2", "Q2", "S1", "P2", "x", "K1 K2", "M2,N2", "\xff", "М2", "M２", strings.Repeat("M2", 40000)}
}

// noTicks are numbers of no tick.
func noTicks() []int {
	return []int{-1, -2, -24, top + 1, top + 2, 2 * top, 1 << 31, 1 << 32, 1<<32 + 5, 1 << 62, -1 << 32, -1 << 62, math.MaxInt, math.MaxInt - 1, math.MinInt, math.MinInt + 1}
}

// someTicks are the edges, the ticks about quarters and eighths of the node's way, and a walk over all the others.
func someTicks() []int {
	l := []int{0, 1, 2, 23, 24, 777, 1024, 1025, 4095, 4096, top - 1, top}
	for k := range 60 {
		if t := (450000000*k - 1008432000) / 22064; t >= 1 && t < top {
			l = append(l, t-1, t, t+1)
		}
	}
	for t := 37; t < top; t += 997 {
		l = append(l, t)
	}
	return l
}

// The steps that the document names, each in a function of its own, which no compiler joins with another.

//go:noinline
func plus(x, y float64) float64 { return x + y }

//go:noinline
func times(x, y float64) float64 { return x * y }

//go:noinline
func over(x, y float64) float64 { return x / y }

// number is the node's, by the layers below.
func number(t *testing.T, tick int) complex128 {
	t.Helper()
	angle, e := argument.Angle(4, tick)
	if e != api.OK {
		t.Fatal(e)
	}
	z, e := turn.Root(angle)
	if e != api.OK {
		t.Fatal(e)
	}
	return z
}

// factor goes by the steps that the document names.
func (l line) factor(z complex128) float64 { return plus(times(l.c1, real(z)), l.c0) }

// units are the line's, not taken round: the whole number nearest to the product, found by looking at the one below and the one above.
func (l line) units(z complex128) int64 {
	x := times(l.c, imag(z))
	n := int64(math.Floor(x))
	low, high := x-float64(n), float64(n+1)-x
	if high < low || high == low && n%2 != 0 {
		n++
	}
	return n
}

// round is the turn of so many units, in lowest terms.
func round(units int64) api.Turn {
	part := (units%circle + circle) % circle
	a, b := int64(circle), part
	for b != 0 {
		a, b = b, a%b
	}
	return api.Turn{Part: part / a, Whole: circle / a}
}

// same tells whether two floats are, to the bit.
func same(x, y float64) bool { return math.Float64bits(x) == math.Float64bits(y) }

// factor and ahead are what is told, which may not be refused.
func factor(t *testing.T, name string, tick int) float64 {
	t.Helper()
	f, e := nodal.Factor(name, tick)
	if e != api.OK {
		t.Fatalf("Factor(%q, %d): %v", name, tick, e)
	}
	return f
}

func ahead(t *testing.T, name string, tick int) api.Turn {
	t.Helper()
	a, e := nodal.Turn(name, tick)
	if e != api.OK {
		t.Fatalf("Turn(%q, %d): %v", name, tick, e)
	}
	return a
}

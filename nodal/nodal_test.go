package nodal_test

import (
	"math"
	"slices"
	"testing"

	"slackwater/api"
	"slackwater/nodal"
	"slackwater/turn"
)

// P12.1, and rule 4: two answers share no memory, their spare room neither.
func TestNames(t *testing.T) {
	want := []string{"K1", "K2", "M2", "Mf", "Mm", "N2", "O1", "P1", "Q1", "S2"}
	l, k := nodal.Names(), nodal.Names()
	if !slices.Equal(l, want) {
		t.Errorf("Names: %v", l)
	}
	l = l[:cap(l)]
	for i := range l {
		l[i] = "x"
	}
	if again := nodal.Names(); !slices.Equal(k, want) || !slices.Equal(again, want) {
		t.Errorf("changed with another answer: %v, %v", k, again)
	}
}

// P12.1: some known ones, to the bit.
func TestNode(t *testing.T) {
	for _, c := range []struct {
		tick   int
		re, im uint64
	}{
		{0, 0xBFC81460C7271355, 0x3FEF6DBCCBF53BD3}, {1, 0xBFC8159E0BAD9A7B, 0x3FEF6DAD9A45C694}, {777, 0xBFCBD46F85359192, 0x3FEF3C07FD2E1A89}, {50000, 0xBFEB61DE42DC4868, 0xBFE08F2D0323CD4E},
		{117455, 0x3FEFFFFFFEA22BAA, 0xBF12B427835A35C0}, {163000, 0xBFC74BD886AC0901, 0x3FEF772DA720B5D3}, {top, 0xBFD1301E8B96BD2D, 0xBFEED30BAFEA9161},
	} {
		z, e := nodal.Node(c.tick)
		if math.Float64bits(real(z)) != c.re || math.Float64bits(imag(z)) != c.im || e != api.OK {
			t.Errorf("Node(%d): %v, %v", c.tick, z, e)
		}
	}
}

// P12.1: the number that stands at the angle 4, at ticks all over.
func TestNodeIsTheRoot(t *testing.T) {
	for _, tick := range someTicks() {
		want := number(t, tick)
		if z, e := nodal.Node(tick); !same(real(z), real(want)) || !same(imag(z), imag(want)) || e != api.OK {
			t.Fatalf("Node(%d): %v, %v; not %v", tick, z, e, want)
		}
	}
}

// P12.2: some known ones, to the bit.
func TestFactorAndTurn(t *testing.T) {
	for _, c := range []struct {
		name        string
		tick        int
		factor      uint64
		part, whole int64
	}{
		{"M2", 0, 0x3FF01C829FA41DE2, 1909, 1920}, {"N2", 0, 0x3FF01C829FA41DE2, 1909, 1920}, {"S2", 0, 0x3FF0000000000000, 0, 1}, {"P1", 0, 0x3FF0000000000000, 0, 1}, {"K2", 0, 0x3FEF0BDADF541E3C, 42827, 45000}, {"K1", 0, 0x3FEF7FED16F244C2, 1170863, 1200000},
		{"O1", 0, 0x3FEF298B17752632, 13259, 450000}, {"Q1", 0, 0x3FEF298B17752632, 13259, 450000}, {"Mf", 0, 0x3FEEE23E2CEC77BA, 3367231, 3600000}, {"Mm", 0, 0x3FF0642BD0094665, 0, 1},
		{"M2", 50000, 0x3FF081AEBC5F779D, 10867, 3600000}, {"K2", 50000, 0x3FE8EFC923266008, 45797, 1800000}, {"K1", 50000, 0x3FED0B046457D1C9, 9211, 720000}, {"O1", 50000, 0x3FEB2AE1F508789A, 221507, 225000}, {"Mf", 50000, 0x3FE60A2BA9F3A6A1, 61321, 1800000}, {"Mm", 50000, 0x3FF1C7A434FC65FD, 0, 1},
		{"M2", 117455, 0x3FEED0E5604E7ACD, 1, 3600000}, {"K2", 117455, 0x3FF4F5C28F2A2268, 13, 3600000}, {"K1", 117455, 0x3FF1EF9DB218F0D9, 1, 600000}, {"O1", 117455, 0x3FF322D0E53F8C04, 449999, 450000}, {"Mf", 117455, 0x3FF74FDF3B1BEFF3, 17, 3600000}, {"Mm", 117455, 0x3FEBD70A3D9E1E2A, 0, 1},
		{"M2", top, 0x3FF028B37B87FC80, 6743, 1200000}, {"K2", top, 0x3FEE4F64147C9ECE, 170497, 3600000}, {"K1", top, 0x3FEF342527D87C09, 8573, 360000}, {"O1", top, 0x3FEEAE511CAD2B7E, 109249, 112500}, {"Mf", top, 0x3FEDD16E69C2D854, 228293, 3600000}, {"Mm", top, 0x3FF08F00FE22FAA1, 0, 1},
		{"S2", 5, 0x3FF0000000000000, 0, 1}, {"P1", 5, 0x3FF0000000000000, 0, 1},
	} {
		if f, e := nodal.Factor(c.name, c.tick); math.Float64bits(f) != c.factor || e != api.OK {
			t.Errorf("Factor(%s, %d): %v, %v", c.name, c.tick, f, e)
		}
		if a, e := nodal.Turn(c.name, c.tick); a != (api.Turn{Part: c.part, Whole: c.whole}) || e != api.OK {
			t.Errorf("Turn(%s, %d): %v, %v; not %d of %d", c.name, c.tick, a, e, c.part, c.whole)
		}
	}
}

// P12.2, rule 7: step by step, at ticks all over, many of which would tell a product that is joined with its sum.
func TestFactorStepByStep(t *testing.T) {
	for _, l := range lines() {
		joined := 0
		for _, tick := range someTicks() {
			z := number(t, tick)
			want := l.factor(z)
			if f, e := nodal.Factor(l.name, tick); !same(f, want) || e != api.OK {
				t.Fatalf("Factor(%s, %d): %v, %v; not %v", l.name, tick, f, e, want)
			}
			if !same(math.FMA(l.c1, real(z), l.c0), want) {
				joined++
			}
		}
		if l.c1 != 0 && joined < 10 {
			t.Errorf("%s: %d ticks alone tell joined ones", l.name, joined)
		}
	}
}

// P12.2: the nearest whole number, at ticks all over.
func TestTurnStepByStep(t *testing.T) {
	for _, l := range lines() {
		for _, tick := range someTicks() {
			want := round(l.units(number(t, tick)))
			if a, e := nodal.Turn(l.name, tick); a != want || e != api.OK || turn.Check(a) != api.OK {
				t.Fatalf("Turn(%s, %d): %v, %v; not %v", l.name, tick, a, e, want)
			}
		}
	}
}

// P12.1, P12.2, rule 1: no tick is refused ahead of no name, and nothing stands beside the error.
func TestRefused(t *testing.T) {
	check := func(name string, tick int, want api.Errno) {
		t.Helper()
		if f, e := nodal.Factor(name, tick); !same(f, 0) || e != want {
			t.Errorf("Factor(%.20q, %d): %v, %v", name, tick, f, e)
		}
		if a, e := nodal.Turn(name, tick); a != (api.Turn{}) || e != want {
			t.Errorf("Turn(%.20q, %d): %v, %v", name, tick, a, e)
		}
	}
	for _, tick := range noTicks() {
		if z, e := nodal.Node(tick); z != 0 || e != api.ErrArg {
			t.Errorf("Node(%d): %v, %v", tick, z, e)
		}
		for _, name := range append(noNames(), nodal.Names()...) {
			check(name, tick, api.ErrArg)
		}
	}
	for _, name := range noNames() {
		for _, tick := range []int{0, 5, 1024, top} {
			check(name, tick, api.ErrMissing)
		}
	}
}

// P12.5: factors, and how far a turn is from none, at ticks all over.
func TestWhatFollows(t *testing.T) {
	for tick := 0; tick <= top; tick += 31 {
		for _, name := range nodal.Names() {
			if f := factor(t, name, tick); !(f >= 0.5 && f <= 1.5) {
				t.Fatalf("Factor(%s, %d): %v", name, tick, f)
			}
			a := ahead(t, name, tick)
			if a.Part < 0 || a.Part >= a.Whole || circle%a.Whole != 0 {
				t.Fatalf("Turn(%s, %d): %v", name, tick, a)
			}
			n := a.Part * (circle / a.Whole)
			if min(n, circle-n) > 237000 {
				t.Fatalf("Turn(%s, %d): %v, %d away", name, tick, a, n)
			}
		}
		for _, name := range []string{"S2", "P1"} {
			if f, a := factor(t, name, tick), ahead(t, name, tick); f != 1 || a != (api.Turn{Part: 0, Whole: 1}) {
				t.Fatalf("%s at %d: %v, %v", name, tick, f, a)
			}
		}
		for _, pair := range [][2]string{{"N2", "M2"}, {"Q1", "O1"}} {
			if !same(factor(t, pair[0], tick), factor(t, pair[1], tick)) || ahead(t, pair[0], tick) != ahead(t, pair[1], tick) {
				t.Fatalf("%v at %d", pair, tick)
			}
		}
	}
}

// P12.2, P12.5: greatest and least as the node goes round: a factor as the real part, a turn as the imaginary one.
func TestGoesWithTheNode(t *testing.T) {
	for _, l := range lines() {
		least, most := math.Inf(1), math.Inf(-1)
		var back, forth int64
		for tick := 0; tick <= top; tick += 101 {
			f := factor(t, l.name, tick)
			least, most = min(least, f), max(most, f)
			a := ahead(t, l.name, tick)
			n := a.Part * (circle / a.Whole)
			if n > circle/2 {
				n -= circle
			}
			back, forth = min(back, n), max(forth, n)
		}
		if far := math.Abs(l.c1); math.Abs(least-(l.c0-far)) > 1e-5 || math.Abs(most-(l.c0+far)) > 1e-5 {
			t.Errorf("%s: from %v to %v", l.name, least, most)
		}
		if far := int64(math.Abs(l.c)); back < -far || back > 1-far || forth > far || forth < far-1 {
			t.Errorf("%s: from %d to %d", l.name, back, forth)
		}
	}
}

package infer_test

import (
	"math"
	"strconv"
	"testing"

	"slackwater/api"
	"slackwater/infer"
	"slackwater/ratio"
)

// P24.1

// nearOf hands on what Near answers, which may not be refused and must be in its one form.
func nearOf(t *testing.T, a, b api.Rotor, n int) api.Ratio {
	t.Helper()
	x, e := infer.Near(a, b, n)
	if e != api.OK || ratio.Check(x) != api.OK {
		t.Fatalf("Near of %v, %v and %d: %v, %d over %d words", a, b, n, e, len(x.Num), len(x.Den))
	}
	return x
}

func TestNear(t *testing.T) {
	u, v, onward, back := o(2, 1), o(2, -1), o(1, 3), o(1, -2)
	for _, c := range []struct {
		a, b api.Rotor
		n    int
		want api.Ratio
	}{
		{u, v, 2, q(64, 25)}, {v, u, 2, q(64, 25)}, {u, v, 0, q(0, 1)}, {u, v, 1, q(0, 1)}, {u, u, 7, q(0, 1)},
		{u, u, 0, q(0, 1)}, {u, u, 1, q(0, 1)}, {u, u, 2, q(0, 1)}, {u, u, 256, q(0, 1)}, {o(1000, 999), o(1000, 999), 256, q(0, 1)},
		// The product is i at the tick 1, so the sum goes 1, 1 + i, i, 0, and on again.
		{u, onward, 1, q(0, 1)}, {u, onward, 2, q(2, 1)}, {u, onward, 3, q(8, 1)}, {u, onward, 4, q(16, 1)}, {u, onward, 5, q(24, 1)},
		{onward, u, 2, q(2, 1)}, {onward, u, 3, q(8, 1)}, {u, onward, 255, q(65024, 1)}, {u, onward, 256, q(65536, 1)}, {onward, u, 254, q(64514, 1)},
		// Here it is -1: the sum goes 1, 0.
		{u, back, 2, q(4, 1)}, {back, u, 3, q(8, 1)}, {u, back, 4, q(16, 1)}, {u, back, 255, q(65024, 1)}, {u, back, 256, q(65536, 1)},
	} {
		if got := nearOf(t, c.a, c.b, c.n); !sameRatio(got, c.want) {
			t.Errorf("Near of %v, %v and %d: %v, not %v", c.a, c.b, c.n, got, c.want)
		}
	}
}

// nearAs holds what Near answers against the definition.
func nearAs(t *testing.T, a, b api.Rotor, n int) {
	t.Helper()
	want, fits := near(a, b, n)
	if got := nearOf(t, a, b, n); !fits || !sameRatio(got, fraction(want)) {
		t.Errorf("Near of %v, %v and %d: not as it should be", a, b, n)
	}
}

func TestNearOfAll(t *testing.T) {
	for _, a := range eight() {
		for _, b := range eight() {
			for _, n := range []int{0, 1, 2, 3, 4, 7, 16, 33} {
				nearAs(t, a, b, n)
			}
		}
	}
	for n := range 60 {
		nearAs(t, o(3, 1), o(3, 2), n)
	}
	for n := 250; n <= 256; n++ {
		nearAs(t, o(3, 1), o(3, 2), n)
	}
}

func TestNearThrown(t *testing.T) {
	d := dice(2401)
	for range 300 {
		nearAs(t, d.rotor(), d.rotor(), d.below(12))
	}
	for range 20 {
		nearAs(t, d.rotor(), d.rotor(), d.below(257))
	}
}

// The widest rotors over the most ticks are not refused.
func TestNearOfTheWidest(t *testing.T) {
	l := widest()
	for i := range 4 {
		nearAs(t, l[i], l[(i+3)%8], 256)
	}
}

// The order of errors: a's, b's, then n.
func TestNearRefuses(t *testing.T) {
	refused := func(a, b api.Rotor, n int, want api.Errno) {
		t.Helper()
		if x, e := infer.Near(a, b, n); e != want || !sameRatio(x, api.Ratio{}) {
			t.Errorf("Near of %v, %v and %d: %v, %v, not %v alone", a, b, n, x, e, want)
		}
	}
	u, v := o(2, 1), o(2, -1)
	wrong := []int{-1, -2, -256, 257, 258, 1024, 1 << 32, 1<<32 + 5, math.MaxInt, math.MinInt}
	for _, n := range wrong {
		refused(u, v, n, api.ErrArg)
		refused(u, u, n, api.ErrArg)
	}
	for _, x := range noRotors() {
		for _, n := range append([]int{0, 1, 2, 256}, wrong...) {
			refused(x, v, n, api.ErrRotor)
			refused(u, x, n, api.ErrRotor)
			refused(x, x, n, api.ErrRotor)
		}
	}
}

// P24.2

// apartOf hands on the places that Apart tells, which may not be refused.
func apartOf(t *testing.T, l []api.Rotor, n int) [2]int {
	t.Helper()
	i, k, f := infer.Apart(l, n)
	if f != (api.Fault{}) {
		t.Fatalf("Apart of %v and %d: %+v", l, n, f)
	}
	return [2]int{i, k}
}

func TestApart(t *testing.T) {
	u, v, w, onward, back := o(2, 1), o(2, -1), o(3, 1), o(1, 3), o(1, -2)
	for _, c := range []struct {
		l    []api.Rotor
		n    int
		want [2]int
	}{
		{[]api.Rotor{u, v}, 1, [2]int{0, 1}}, {[]api.Rotor{u, v}, 0, [2]int{0, 1}}, {[]api.Rotor{v, u}, 256, [2]int{0, 1}},
		{[]api.Rotor{v, u, w}, 2, [2]int{1, 2}}, {[]api.Rotor{w, v, u}, 2, [2]int{0, 2}}, {[]api.Rotor{w, u, v}, 2, [2]int{0, 1}},
		{[]api.Rotor{v, u, w}, 1, [2]int{0, 1}}, {[]api.Rotor{v, u, w}, 0, [2]int{0, 1}},
		// Of two ticks these are 2 where a quarter is between, 4 where a half is.
		{[]api.Rotor{u, back, onward}, 2, [2]int{0, 2}}, {[]api.Rotor{back, u, onward}, 2, [2]int{0, 2}}, {[]api.Rotor{u, onward, back}, 2, [2]int{0, 1}},
		// Of four ticks all are 16.
		{[]api.Rotor{u, back, onward}, 4, [2]int{0, 1}}, {[]api.Rotor{onward, back, u}, 4, [2]int{0, 1}},
		// Two and their conjugates are parted alike.
		{[]api.Rotor{o(5, 4), w, o(3, -1), u, v}, 2, [2]int{1, 3}}, {[]api.Rotor{o(5, 4), o(3, -1), w, u, v}, 2, [2]int{1, 4}}, {[]api.Rotor{v, u, o(3, -1), w}, 2, [2]int{0, 2}}, {[]api.Rotor{u, v, o(3, -1), w}, 2, [2]int{0, 3}},
	} {
		if got := apartOf(t, c.l, c.n); got != c.want {
			t.Errorf("Apart of %v and %d: %v, not %v", c.l, c.n, got, c.want)
		}
	}
}

// apartAs holds the places against the definition.
func apartAs(t *testing.T, l []api.Rotor, n int) {
	t.Helper()
	want := [2]int{0, 1}
	least, _ := near(l[0], l[1], n)
	for i := range l {
		for k := i + 1; k < len(l); k++ {
			if x, _ := near(l[i], l[k], n); x.Cmp(least) < 0 {
				least, want = x, [2]int{i, k}
			}
		}
	}
	if got := apartOf(t, l, n); got != want {
		t.Errorf("Apart of %v and %d: %v, not %v", l, n, got, want)
	}
}

func TestApartThrown(t *testing.T) {
	d := dice(2402)
	for range 120 {
		apartAs(t, d.rotors(2+d.below(7)), d.below(9))
	}
	// Few rotors, so that many are parted alike.
	few := []api.Rotor{o(2, 1), o(2, -1), o(1, 2), o(1, -2), o(3, 1), o(3, -1), o(1, 3), o(1, -3)}
	for range 120 {
		for i := range few {
			k := d.below(len(few))
			few[i], few[k] = few[k], few[i]
		}
		apartAs(t, few[:2+d.below(7)], d.below(6))
	}
	apartAs(t, d.rotors(3), 256)
	apartAs(t, eight(), 64)
}

// Each two places: those that stand there are parted worst.
func TestApartAtEachPlace(t *testing.T) {
	for k := range 8 {
		for i := range k {
			l := []api.Rotor{o(2, 1), o(1, 2), o(2, -1), o(1, -2), o(3, 1), o(1, 3), o(3, -1), o(1, -3)}
			l[i], l[k] = o(1000, 999), o(999, 998)
			if got := apartOf(t, l, 3); got != [2]int{i, k} {
				t.Errorf("Apart of %v: %v", l, got)
			}
		}
	}
}

// The widest are not refused, either.
func TestApartOfTheWidest(t *testing.T) {
	l := widest()
	got := apartOf(t, l, 256)
	least := nearOf(t, l[got[0]], l[got[1]], 256)
	for i := range l {
		for k := i + 1; k < len(l); k++ {
			order, _ := ratio.Compare(nearOf(t, l[i], l[k], 256), least)
			if order < 0 || order == 0 && (i < got[0] || i == got[0] && k < got[1]) {
				t.Errorf("%v rather than %v", [2]int{i, k}, got)
			}
		}
	}
}

// The order of errors: the rotors' fault, then n and how many there are.
func TestApartRefuses(t *testing.T) {
	refused := func(what string, l []api.Rotor, n int, want api.Fault) {
		t.Helper()
		if i, k, f := infer.Apart(l, n); i != 0 || k != 0 || f != want {
			t.Errorf("Apart of %s and %d: %d, %d, %+v, not %+v alone", what, n, i, k, f, want)
		}
	}
	counts := []int{0, 1, 2, 256}
	wrong := []int{-1, -256, 257, 1024, 1<<32 + 5, math.MaxInt, math.MinInt}
	for _, n := range wrong {
		for k := range 9 {
			refused(strconv.Itoa(k)+" that may be", eight()[:k], n, fault(api.ErrArg, -1))
		}
	}
	for _, n := range append(counts, wrong...) {
		refused("none", nil, n, fault(api.ErrArg, -1))
		refused("one", []api.Rotor{o(2, 1)}, n, fault(api.ErrArg, -1))
		refused("nine", append(eight(), o(7, 1)), n, fault(api.ErrLong, -1))
		refused("nine empty ones", make([]api.Rotor, 9), n, fault(api.ErrLong, -1))
		refused("one nine times", append(eight(), o(2, 1)), n, fault(api.ErrLong, -1))
		refused("one twice", []api.Rotor{o(2, 1), o(2, 1)}, n, fault(api.ErrThere, 1))
		refused("one twice, then a wrong one", []api.Rotor{o(2, 1), o(3, 1), o(2, 1), {}}, n, fault(api.ErrThere, 2))
		refused("a wrong one, then one twice", []api.Rotor{o(2, 1), {}, o(2, 1)}, n, fault(api.ErrRotor, 1))
	}
	for _, x := range noRotors() {
		refused("a wrong one alone", []api.Rotor{x}, 2, fault(api.ErrRotor, 0))
		refused("a wrong one alone", []api.Rotor{x}, -1, fault(api.ErrRotor, 0))
		for place := range 8 {
			l := eight()
			l[place] = x
			refused("a wrong one among eight", l, 2, fault(api.ErrRotor, place))
			refused("a wrong one among eight", l, 257, fault(api.ErrRotor, place))
		}
	}
}

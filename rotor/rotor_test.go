package rotor_test

import (
	"math"
	"slices"
	"testing"

	"slackwater/api"
	"slackwater/rotor"
)

// P5.1

func TestCheck(t *testing.T) {
	for _, r := range wrong() {
		if e := rotor.Check(r); e != api.ErrRotor {
			t.Errorf("Check of %v: %v", r, e)
		}
	}
	for _, r := range right() {
		if e := rotor.Check(r); e != api.OK {
			t.Errorf("Check of %v: %v", r, e)
		}
	}
}

// Every Far and Near up to the limits and a little beyond, the common divisors being struck out prime by prime.
func TestCheckOfAll(t *testing.T) {
	const top = 1003
	var common [top + 1][top + 1]bool
	for p := 2; p <= top; p++ {
		if common[p][0] {
			continue
		}
		for far := 0; far <= top; far += p {
			for near := 0; near <= top; near += p {
				common[far][near] = true
			}
		}
		// Only the multiples above p are no primes.
		common[p][0] = false
	}
	for far := -3; far <= top; far++ {
		for near := -top; near <= top; near++ {
			size := max(near, -near)
			may := far >= 1 && far <= 1000 && size >= 1 && size <= 1000 && far != size && !common[far][size]
			if e := rotor.Check(o(int32(far), int32(near))); (e == api.OK) != may || e != api.OK && e != api.ErrRotor {
				t.Fatalf("Check of %d and %d: %v", far, near, e)
			}
		}
	}
}

// The rotor's error stands ahead of all others, and nothing stands beside it.
func TestEachCallLooksAtItsRotors(t *testing.T) {
	for _, r := range wrong() {
		g, e := rotor.Of(r)
		refused(t, "Of", g, e, api.ErrRotor)
		if c, e := rotor.Conj(r); c != o(0, 0) || e != api.ErrRotor {
			t.Errorf("Conj of %v: %v %v", r, c, e)
		}
		for _, k := range []int{0, 1, -1, 5, 1024, 1025, -1025, math.MaxInt, math.MinInt} {
			g, e := rotor.Power(r, k)
			refused(t, "Power", g, e, api.ErrRotor)
		}
		for range rotor.Steps(r) {
			t.Errorf("Steps of %v goes over something", r)
		}
		for _, other := range append(right()[:3], r, o(0, 0)) {
			if c, e := rotor.Order(r, other); c != 0 || e != api.ErrRotor {
				t.Errorf("Order of %v and %v: %v %v", r, other, c, e)
			}
			if c, e := rotor.Order(other, r); c != 0 || e != api.ErrRotor {
				t.Errorf("Order of %v and %v: %v %v", other, r, c, e)
			}
		}
	}
}

// P5.2

func TestOfAndConj(t *testing.T) {
	ok := must(t)
	for _, c := range []struct {
		r    api.Rotor
		want api.Gauss
	}{
		{o(2, 1), z(3, 5, 4, 5)}, {o(1, 2), z(-3, 5, 4, 5)}, {o(3, -1), z(4, 5, -3, 5)}, {o(3, 1), z(4, 5, 3, 5)}, {o(1, -3), z(-4, 5, -3, 5)}, {o(1, -2), z(-3, 5, -4, 5)},
		{o(1000, 999), z(1999, 1998001, 1998000, 1998001)}, {o(999, -997), z(1996, 996005, -996003, 996005)}, {o(1, 1000), z(-999999, 1000001, 2000, 1000001)}, {o(999, -1), z(499000, 499001, -999, 499001)},
	} {
		if got := ok(rotor.Of(c.r)); !same(got, c.want) {
			t.Errorf("Of %v: %s", c.r, text(got))
		}
	}
	d := dice(5)
	l := append(smallest(20), right()...)
	for range 2000 {
		l = append(l, d.rotor())
	}
	for _, r := range l {
		if got := ok(rotor.Of(r)); !same(got, numberOf(r)) {
			t.Errorf("Of %v: %s", r, text(got))
		}
		c, e := rotor.Conj(r)
		if c != o(r.Far, -r.Near) || e != api.OK {
			t.Errorf("Conj of %v: %v %v", r, c, e)
		}
		if got := ok(rotor.Of(c)); !same(got, opposite(numberOf(r))) {
			t.Errorf("Of the conjugate of %v: %s", r, text(got))
		}
	}
}

// P5.5

func TestApart(t *testing.T) {
	for _, c := range []struct {
		l    []api.Rotor
		want int
		e    api.Errno
	}{
		{nil, -1, api.OK}, {[]api.Rotor{}, -1, api.OK}, {[]api.Rotor{o(2, 1)}, -1, api.OK},
		{[]api.Rotor{o(2, 1), o(3, 1), o(2, 1)}, 2, api.OK}, {[]api.Rotor{o(2, 1), o(2, 1)}, 1, api.OK}, {[]api.Rotor{o(2, 1), o(2, 1), o(2, 1)}, 1, api.OK},
		{[]api.Rotor{o(2, 1), o(3, 1), o(4, 1), o(3, 1), o(2, 1)}, 3, api.OK}, {[]api.Rotor{o(3, 1), o(2, 1), o(4, 1), o(3, 1), o(2, 1)}, 3, api.OK},
		{[]api.Rotor{o(2, 1), o(2, -1), o(1, 2), o(1, -2), o(3, 1), o(3, -1), o(1, 3), o(1, -3)}, -1, api.OK},
		{[]api.Rotor{o(0, 0)}, 0, api.ErrRotor}, {[]api.Rotor{o(2, 1), o(0, 0)}, 1, api.ErrRotor},
		// One that may not be is told wherever it stands, and of two the first.
		{[]api.Rotor{o(2, 1), o(2, 1), o(3, 1), o(1, 1)}, 3, api.ErrRotor}, {[]api.Rotor{o(2, 1), o(4, 2), o(2, 1), o(1, 0)}, 1, api.ErrRotor}, {[]api.Rotor{o(4, 2), o(4, 2)}, 0, api.ErrRotor},
	} {
		given := slices.Clone(c.l)
		if at, e := rotor.Apart(given); at != c.want || e != c.e || !slices.Equal(given, c.l) {
			t.Errorf("Apart of %v: %d %v", c.l, at, e)
		}
	}
	for _, r := range wrong() {
		if at, e := rotor.Apart([]api.Rotor{o(3, 1), o(3, 1), r}); at != 2 || e != api.ErrRotor {
			t.Errorf("Apart of a list with %v: %d %v", r, at, e)
		}
	}
}

func TestApartUpTo64(t *testing.T) {
	l := smallest(9)[:65]
	if at, e := rotor.Apart(l[:64]); at != -1 || e != api.OK {
		t.Errorf("Apart of 64: %d %v", at, e)
	}
	if at, e := rotor.Apart(append(l[:63:63], l[0])); at != 63 || e != api.OK {
		t.Errorf("Apart of 64, the last there already: %d %v", at, e)
	}
	if at, e := rotor.Apart(append(l[:63:63], o(1, 1))); at != 63 || e != api.ErrRotor {
		t.Errorf("Apart of 64, the last may not be: %d %v", at, e)
	}
	for name, long := range map[string][]api.Rotor{
		"65 that are unlike": l, "65 that are the same": slices.Repeat([]api.Rotor{o(2, 1)}, 65), "65 that may not be": make([]api.Rotor, 65), "10,000": slices.Repeat(l[:10], 1000),
	} {
		if at, e := rotor.Apart(long); at != 0 || e != api.ErrLong {
			t.Errorf("Apart of %s: %d %v", name, at, e)
		}
	}
}

func TestOrder(t *testing.T) {
	// From 1 on: the first quarter, the second, the third, the fourth.
	way := []api.Rotor{
		o(1000, 1), o(999, 1), o(4, 1), o(3, 1), o(2, 1), o(3, 2), o(998, 997), o(999, 998), o(1000, 999),
		o(999, 1000), o(998, 999), o(2, 3), o(1, 2), o(1, 3), o(1, 999), o(1, 1000),
		o(1, -1000), o(1, -999), o(1, -3), o(1, -2), o(2, -3), o(998, -999), o(999, -1000),
		o(1000, -999), o(999, -998), o(3, -2), o(2, -1), o(3, -1), o(999, -1), o(1000, -1),
	}
	for i, a := range way {
		for j, b := range way {
			want := 0
			if i < j {
				want = -1
			} else if i > j {
				want = 1
			}
			if got, e := rotor.Order(a, b); got != want || e != api.OK {
				t.Errorf("Order of %v and %v: %d %v", a, b, got, e)
			}
		}
	}
}

// The angles of unlike rotors lie at least a millionth apart, which floats tell well.
func TestOrderByAngles(t *testing.T) {
	d := dice(55)
	l := smallest(9)
	for range 300 {
		l = append(l, d.rotor())
	}
	for _, a := range l {
		for _, b := range l {
			want := 0
			if a != b {
				want = -1
				if angle(a) > angle(b) {
					want = 1
				}
			}
			if got, e := rotor.Order(a, b); got != want || e != api.OK {
				t.Fatalf("Order of %v and %v: %d %v", a, b, got, e)
			}
		}
	}
}

// angle is the number's angle, from 0 on.
func angle(r api.Rotor) float64 {
	far, near := float64(r.Far), float64(r.Near)
	a := math.Atan2(2*far*near, far*far-near*near)
	if a < 0 {
		a += 2 * math.Pi
	}
	return a
}

// P5.6

func TestFind(t *testing.T) {
	for _, c := range []struct {
		g    api.Gauss
		want api.Rotor
	}{
		{z(3, 5, 4, 5), o(2, 1)}, {z(4, 5, 3, 5), o(3, 1)}, {z(-3, 5, -4, 5), o(1, -2)}, {z(-4, 5, 3, 5), o(1, 3)}, {z(-7, 25, 24, 25), o(3, 4)}, {z(1999, 1998001, 1998000, 1998001), o(1000, 999)}, {z(-999999, 1000001, 2000, 1000001), o(1, 1000)},
	} {
		if got, ok := rotor.Find(c.g); got != c.want || !ok {
			t.Errorf("Find of %s: %v %v", text(c.g), got, ok)
		}
	}
}

func none(t *testing.T, what string, g api.Gauss) {
	t.Helper()
	if r, ok := rotor.Find(g); r != o(0, 0) || ok {
		t.Errorf("Find of %s: %v %v", what, r, ok)
	}
}

func TestFindNone(t *testing.T) {
	for _, g := range []api.Gauss{
		z(0, 1, 0, 1), z(1, 1, 0, 1), z(-1, 1, 0, 1), z(0, 1, 1, 1), z(0, 1, -1, 1), z(1, 1, 1, 1), z(2, 1, -1, 1), z(3, 5, 3, 5), z(4, 5, 4, 5), z(3, 5, 4, 7), z(3, 7, 4, 5), z(6, 5, 8, 5), z(-6, 5, 4, 5), z(-1, 1, 4, 5), z(1, 2, 1, 3), z(5, 13, 4, 5), z(1<<40, 3, 1, 1<<40), z(-5, 3, 4, 3), z(4294967295, 1, 4294967295, 1), z(3, 4294967295, 1, 4294967295),
		// Rotors beyond the limits, of size 1 all the same.
		numberOf(o(1001, 1)), numberOf(o(1, 1001)), numberOf(o(1001, -1000)), numberOf(o(40000, 39999)), numberOf(o(1000, 1001)), numberOf(o(1003, 998)), numberOf(o(1<<30, 1)),
	} {
		none(t, text(g), g)
	}
	// The square of the greatest has none.
	g, _ := rotor.Power(o(1000, 999), 2)
	none(t, "a square", g)
	// But what is not in lowest terms is another's number: 1002 and 998 are 501 and 499.
	if r, ok := rotor.Find(numberOf(o(1002, 998))); r != o(501, 499) || !ok {
		t.Errorf("Find of the number of 1002 and 998: %v %v", r, ok)
	}
}

// All numbers with parts up to 30 over 30 are held against a table of all rotors that could be.
func TestFindOfAllOfTheSmallest(t *testing.T) {
	table := map[string]api.Rotor{}
	for _, r := range smallest(8) {
		table[text(numberOf(r))] = r
	}
	found := 0
	for d := int64(1); d <= 30; d++ {
		for a := -d; a <= d; a++ {
			for e := max(1, d-1); e <= min(30, d+1); e++ {
				for b := -e; b <= e; b++ {
					g := z(a, d, b, e)
					want, there := table[text(g)]
					got, ok := rotor.Find(g)
					if got != want || ok != there {
						t.Fatalf("Find of %s: %v %v", text(g), got, ok)
					}
					if ok {
						found++
					}
				}
			}
		}
	}
	if found == 0 {
		t.Error("none was found")
	}
}

func TestFindOfWhatIsNotInItsOneForm(t *testing.T) {
	words := func(w ...uint32) []uint32 { return w }
	part := func(neg bool, num, den []uint32) api.Ratio { return api.Ratio{Neg: neg, Num: num, Den: den} }
	for name, bad := range map[string]api.Ratio{
		"nothing":              {},
		"over nothing":         part(false, words(4), nil),
		"over a nought":        part(false, words(4), words(0)),
		"a nought over 5":      part(false, words(0), words(5)),
		"0 that is Neg":        part(true, nil, words(1)),
		"0 over 5":             part(false, nil, words(5)),
		"8 over 10":            part(false, words(8), words(10)),
		"6 over 10":            part(false, words(6), words(10)),
		"12 over 15":           part(false, words(12), words(15)),
		"a Num with a nought":  part(false, words(4, 0), words(5)),
		"a Den with a nought":  part(false, words(4), words(5, 0)),
		"3, a Num with one":    part(false, words(3, 0), words(5)),
		"3, a Den with one":    part(false, words(3), words(5, 0)),
		"4 of 2,049 words":     part(false, append(words(4), make([]uint32, 2048)...), words(5)),
		"a Num of 2,049 words": part(false, slices.Repeat(words(7), 2049), words(5)),
		"a Den of 2,049 words": part(true, words(3), slices.Repeat(words(7), 2049)),
		"a Num of 2,048 words": part(false, slices.Repeat(words(7), 2048), words(5)),
	} {
		none(t, "3/5 and "+name, api.Gauss{Re: q(3, 5), Im: bad})
		none(t, name+" and 4/5", api.Gauss{Re: bad, Im: q(4, 5)})
		none(t, name+" twice", api.Gauss{Re: bad, Im: bad})
	}
	// Of a rotor with two odd numbers the number as it is defined is not in lowest terms.
	none(t, "8/10 and 6/10", api.Gauss{Re: part(false, words(8), words(10)), Im: part(false, words(6), words(10))})
	none(t, "6/10 and 8/10", api.Gauss{Re: part(false, words(6), words(10)), Im: part(false, words(8), words(10))})
}

// P5.7

func TestUnlikeRotorsHaveUnlikeNumbersAndAreFound(t *testing.T) {
	ok := must(t)
	d := dice(56)
	l := append(smallest(30), right()...)
	for range 4000 {
		l = append(l, d.rotor())
	}
	numbers := map[string]api.Rotor{}
	for _, r := range l {
		g := ok(rotor.Of(r))
		if got, there := rotor.Find(g); got != r || !there {
			t.Fatalf("Find of the number of %v: %v %v", r, got, there)
		}
		if other, there := numbers[text(g)]; there && other != r {
			t.Fatalf("%v and %v have one number", other, r)
		}
		numbers[text(g)] = r
	}
}

// An answer is new memory, and what is handed in stays as it is.
func TestMemory(t *testing.T) {
	for _, r := range right() {
		first, _ := rotor.Of(r)
		was := copyOf(first)
		if !scribbled(first) {
			t.Errorf("Of %v: its lists share memory", r)
		}
		if second, _ := rotor.Of(r); !same(second, was) {
			t.Errorf("Of %v again: %s", r, text(second))
		}
		spare := func(words []uint32) []uint32 { return append(slices.Clone(words), 77, 78)[:len(words)] }
		given := api.Gauss{Re: api.Ratio{Neg: was.Re.Neg, Num: spare(was.Re.Num), Den: spare(was.Re.Den)}, Im: api.Ratio{Neg: was.Im.Neg, Num: spare(was.Im.Num), Den: spare(was.Im.Den)}}
		if got, ok := rotor.Find(given); got != r || !ok || !same(given, was) {
			t.Errorf("Find of the number of %v with spare room: %v %v", r, got, ok)
		}
		for _, words := range [][]uint32{given.Re.Num, given.Re.Den, given.Im.Num, given.Im.Den} {
			if !slices.Equal(words[len(words):len(words)+2], []uint32{77, 78}) {
				t.Errorf("Find of the number of %v writes into spare room", r)
			}
		}
	}
	roomy := append(slices.Clone(right()), o(9, 9))[:len(right())]
	if at, e := rotor.Apart(roomy); at != -1 || e != api.OK || !slices.Equal(roomy, right()) || roomy[:len(roomy)+1][len(roomy)] != o(9, 9) {
		t.Errorf("Apart changes its list or looks behind it: %d %v", at, e)
	}
}

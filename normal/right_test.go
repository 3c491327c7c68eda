package normal_test

import (
	"strconv"
	"testing"

	"slackwater/api"
	"slackwater/normal"
)

// P21.3

func TestRight(t *testing.T) {
	for i, c := range []struct {
		ticks   []int
		heights []string
		rotors  []api.Rotor
		want    []string
	}{
		{[]int{0, 1}, []string{"1 0", "0 0"}, pair(), []string{"1 0", "1 0"}},
		{[]int{0, 1}, []string{"1 0", "3/5 4/5"}, pair(), []string{"2 0", "18/25 24/25"}},
		{[]int{0, 1}, []string{"0 0", "1 0"}, pair(), []string{"3/5 -4/5", "3/5 4/5"}},
		{[]int{1}, []string{"0 5"}, pair(), []string{"4 3", "-4 3"}},
		{[]int{2}, []string{"25 0"}, pair()[:1], []string{"-7 -24"}},
		{[]int{0, 2}, []string{"1/2 -1/3", "25/2 0"}, pair()[:1], []string{"-3 -37/3"}},
		{nil, nil, pair(), []string{"0 0", "0 0"}},
		{[]int{0, 1}, []string{"1 2", "3 4"}, nil, nil},
		{nil, nil, nil, nil},
	} {
		if got := mustSide(t)(normal.Right(c.ticks, read(t, c.heights...), c.rotors)); !same(got, read(t, c.want...)) {
			t.Errorf("Right %d: not as it should be", i)
		}
	}
}

// rightAs holds what is told, or that it is refused as too long, against the definition.
func rightAs(t *testing.T, what string, ticks []int, heights []api.Gauss, rotors []api.Rotor) (long bool) {
	t.Helper()
	want, long := sideOf(ticks, heights, rotors)
	got, f := normal.Right(ticks, heights, rotors)
	if long {
		if f != nowhere(api.ErrLong) || len(got) > 0 {
			t.Errorf("Right, %s: %v at %d, not too long alone", what, f.Err, f.At)
		}
		return long
	}
	if !same(mustSide(t)(got, f), want) {
		t.Errorf("Right, %s: not as it should be", what)
	}
	return long
}

func TestRightOverTicks(t *testing.T) {
	for _, ticks := range [][]int{nil, {0}, {1}, {5}, {0, 1}, {0, 7}, {3, 4, 9}, span(0, 20), span(7, 16), {0, 100, 101}, {99, 130}} {
		for _, rotors := range [][]api.Rotor{nil, pair(), eight()[:3], eight()[5:], eight()} {
			rightAs(t, "small numbers", ticks, whole(len(ticks)), rotors)
		}
	}
	rightAs(t, "late ticks", []int{0, 1023, 1024}, whole(3), []api.Rotor{o(3, 1), o(1000, 999)})
	rightAs(t, "256 ticks", span(0, 256), whole(256), pair()[:1])
}

func TestRightThrown(t *testing.T) {
	d := dice(213)
	for range 150 {
		ticks := d.ticks(9, 60)
		rightAs(t, "thrown", ticks, d.numbers(len(ticks)), d.rotors(8))
	}
	for range 6 {
		ticks := d.ticks(4, 1024)
		rightAs(t, "thrown, late", ticks, d.numbers(len(ticks)), d.rotors(3))
	}
}

// Each height that just fits, or just doesn't: u's power 1 is 3/5 and 4/5 i, the conjugate's 3/5 less 4/5 i.
func TestRightTooLong(t *testing.T) {
	u := []api.Rotor{o(2, 1)}
	// In hundreds of words, with nothing in common: the sum of two with 1,300 is too long.
	even, odd := under(32*1299+7), r(false, ints(1), full(1300, 1<<32-1))
	third := g(fraction(turned(u[0], 2).re), fraction(turned(u[0], 2).im))
	var w way
	back := w.times(planeOf(third), planeOf(g(opposite(even), nought()))).gauss()
	for key, c := range map[string]struct {
		ticks   []int
		heights []api.Gauss
		rotors  []api.Rotor
		long    bool
	}{
		"a Num, as it stands":               {[]int{0}, []api.Gauss{g(wide(65535), nought())}, u, false},
		"a Num, 3 times, 4 times":           {[]int{1}, []api.Gauss{g(wide(65533), nought())}, u, false},
		"a Num, 4 times too long":           {[]int{1}, []api.Gauss{g(wide(65534), nought())}, u, true},
		"a Num, 3 times too long":           {[]int{1}, []api.Gauss{g(nought(), wide(65535))}, u, true},
		"an Im's Num, 3 times, 4 times":     {[]int{1}, []api.Gauss{g(nought(), wide(65533))}, u, false},
		"an Im's Num, 4 times too long":     {[]int{1}, []api.Gauss{g(nought(), wide(65534))}, u, true},
		"a Den, as it stands":               {[]int{0}, []api.Gauss{g(under(65535), nought())}, u, false},
		"a Den, 5 times":                    {[]int{1}, []api.Gauss{g(under(65533), nought())}, u, false},
		"a Den, 5 times too long":           {[]int{1}, []api.Gauss{g(under(65534), nought())}, u, true},
		"an Im's Den, 5 times":              {[]int{1}, []api.Gauss{g(nought(), under(65533))}, u, false},
		"an Im's Den, 5 times too long":     {[]int{1}, []api.Gauss{g(nought(), under(65534))}, u, true},
		"both parts, as they stand":         {[]int{0}, []api.Gauss{g(even, odd)}, u, false},
		"both parts together":               {[]int{1}, []api.Gauss{g(even, odd)}, u, true},
		"two heights apart":                 {[]int{0, 1}, []api.Gauss{g(even, nought()), g(nought(), nought())}, u, false},
		"two heights together":              {[]int{0, 1}, []api.Gauss{g(even, nought()), g(odd, nought())}, u, true},
		"two heights' Im together":          {[]int{0, 1}, []api.Gauss{g(nought(), even), g(nought(), odd)}, u, true},
		"too long on the way alone":         {[]int{0, 1, 2}, []api.Gauss{g(even, nought()), g(odd, nought()), back}, u, true},
		"short all the way":                 {[]int{0, 2}, []api.Gauss{g(even, nought()), back}, u, false},
		"the second rotor's, too long":      {[]int{3}, []api.Gauss{g(under(65480), nought())}, []api.Rotor{o(2, 1), o(1000, 999)}, true},
		"the first rotor's, and it is none": {[]int{3}, []api.Gauss{g(under(65480), nought())}, u, false},
		"the last tick's":                   {span(0, 9), append(whole(8), g(under(65530), nought())), u, true},
	} {
		if long := rightAs(t, key, c.ticks, c.heights, c.rotors); long != c.long {
			t.Errorf("%s: too long is %v", key, long)
		}
	}
}

// opposite is the fraction with the other sign.
func opposite(a api.Ratio) api.Ratio {
	a.Neg = !a.Neg && len(a.Num) > 0
	return a
}

// long throws a number with long parts.
func (d *dice) long() api.Gauss {
	part := func() api.Ratio {
		switch k := d.below(66000); d.below(6) {
		case 0:
			return wide(min(k, 65535))
		case 1:
			return under(min(k, 65535))
		case 2:
			return r(true, ints(1), full(1+k/33, 1<<32-1))
		case 3:
			return r(false, full(1+k/33, 1<<32-1), two(min(k, 65535)))
		}
		return d.fraction()
	}
	return g(part(), part())
}

func TestRightLongThrown(t *testing.T) {
	d := dice(214)
	count := map[bool]int{}
	for range 120 {
		ticks := d.ticks(3, 400)
		heights := d.numbers(len(ticks))
		if len(ticks) > 0 {
			heights[d.below(len(ticks))] = d.long()
		}
		count[rightAs(t, "thrown, long", ticks, heights, append(d.rotors(1), o(7, 1)))]++
	}
	if count[true] < 20 || count[false] < 20 {
		t.Errorf("too long, and not: %v", count)
	}
}

func TestRightRefuses(t *testing.T) {
	refused := func(what string, ticks []int, heights []api.Gauss, rotors []api.Rotor, want api.Fault) {
		t.Helper()
		if l, f := normal.Right(ticks, heights, rotors); f != want || len(l) > 0 {
			t.Errorf("Right, %s: %v at %d, %d numbers, not %v at %d alone", what, f.Err, f.At, len(l), want.Err, want.At)
		}
	}
	for key, w := range listsOfWrongTicks() {
		refused(key, w.l, whole(len(w.l)), pair(), w.want)
		refused(key+", all else wrong", w.l, make([]api.Gauss, 1), []api.Rotor{{}, {}}, w.want)
	}
	for key, w := range listsOfWrongRotors() {
		refused(key, []int{0, 1}, whole(2), w.l, w.want)
		refused(key+", one height more", []int{0, 1}, whole(3), w.l, w.want)
		refused(key+", empty heights", []int{0, 1}, make([]api.Gauss, 2), w.l, w.want)
	}
	for ticks := range 4 {
		for heights := range 6 {
			if ticks != heights {
				key := strconv.Itoa(ticks) + " ticks, heights: " + strconv.Itoa(heights)
				refused(key, span(0, ticks), whole(heights), pair(), nowhere(api.ErrArg))
				refused(key+", empty ones", span(0, ticks), make([]api.Gauss, heights), pair(), nowhere(api.ErrArg))
				refused(key+", no rotors", span(0, ticks), whole(heights), nil, nowhere(api.ErrArg))
			}
		}
	}
	refused("256 ticks, 512 heights", span(0, 256), whole(512), pair(), nowhere(api.ErrArg))
	for key, w := range listsOfWrongNumbers() {
		refused(key, span(0, 6), w.l, pair(), w.want)
		refused(key+", no rotors", span(0, 6), w.l, nil, w.want)
		refused(key+", behind what would be too long", append([]int{1}, span(3, 9)...), append([]api.Gauss{g(wide(65535), nought())}, w.l...), pair(), at(w.want.Err, w.want.At+1))
	}
}

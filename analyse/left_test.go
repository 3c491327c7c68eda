package analyse_test

import (
	"slices"
	"strconv"
	"strings"
	"testing"

	"slackwater/api"
)

// P23.2

// tide writes a constituent.
func tide(name string, u api.Rotor, number api.Gauss) api.Tide {
	return api.Tide{Name: name, Rotor: u, Number: number}
}

func TestLeft(t *testing.T) {
	u, v := o(2, 1), o(2, -1)
	for i, c := range []struct {
		ticks   []int
		heights []string
		tides   []api.Tide
		left    []string
		misfit  api.Ratio
	}{
		{[]int{0, 1}, []string{"1 0", "0 0"}, []api.Tide{tide("R1", u, re(q(1, 2)))}, []string{"1/2 0", "-3/10 -2/5"}, q(1, 2)},
		{[]int{0, 1}, []string{"1 0", "3/5 4/5"}, []api.Tide{tide("R1", u, z(1, 0))}, []string{"0 0", "0 0"}, q(0, 1)},
		{[]int{0, 1}, []string{"1 0", "3/5 4/5"}, []api.Tide{tide("R1", v, z(1, 0))}, []string{"0 0", "0 8/5"}, q(64, 25)},
		{[]int{0, 1}, []string{"1 0", "3/5 4/5"}, []api.Tide{tide("R1", v, z(0, 0))}, []string{"1 0", "3/5 4/5"}, q(2, 1)},
		{[]int{0, 1}, []string{"0 0", "0 0"}, []api.Tide{tide("A", u, z(1, 0)), tide("B", v, z(1, 0))}, []string{"-2 0", "-6/5 0"}, q(136, 25)},
		{[]int{0, 1}, []string{"1 0", "2 -3"}, nil, []string{"1 0", "2 -3"}, q(14, 1)},
		{[]int{3}, []string{"-1/2 2/3"}, nil, []string{"-1/2 2/3"}, q(25, 36)},
		{[]int{1}, []string{"0 0"}, []api.Tide{tide("M2", u, z(0, 5))}, []string{"4 -3"}, q(25, 1)},
		{[]int{2}, []string{"1 0"}, []api.Tide{tide("M2", u, z(25, 0))}, []string{"8 -24"}, q(640, 1)},
		{nil, nil, []api.Tide{tide("M2", u, z(0, 5))}, nil, q(0, 1)},
		{nil, nil, nil, nil, q(0, 1)},
	} {
		x := given{ticks: c.ticks, heights: read(t, c.heights...), tides: c.tides}
		if got := must(t, "Left", x); !got.is(answer{list: read(t, c.left...)}) {
			t.Errorf("Left %d: not as it should be", i)
		}
		if got := must(t, "Misfit", x); !got.is(answer{sum: c.misfit}) {
			t.Errorf("Misfit %d: not as it should be", i)
		}
	}
}

// leftAs holds what both answer against the definition, and tells the errors that they should be.
func leftAs(t *testing.T, what string, ticks []int, heights []api.Gauss, tides []api.Tide) (rests, sum api.Errno) {
	t.Helper()
	x := given{ticks: ticks, heights: heights, tides: tides}
	wants := map[string]answer{"Left": left(ticks, heights, tides), "Misfit": misfit(ticks, heights, tides)}
	for name, want := range wants {
		if want.e != api.OK {
			refused(t, name, what, x, want.e)
		} else if !must(t, name, x).is(want) {
			t.Errorf("%s, %s: not as it should be", name, what)
		}
	}
	return wants["Left"].e, wants["Misfit"].e
}

func TestLeftOverTicks(t *testing.T) {
	for _, ticks := range [][]int{nil, {0}, {1}, {5}, {0, 1}, {0, 7}, {3, 4, 9}, span(0, 20), span(7, 16), {0, 100, 101}, {99, 130}} {
		for _, rotors := range [][]api.Rotor{nil, pair(), eight()[:3], eight()[5:], eight()} {
			leftAs(t, "small numbers", ticks, whole(len(ticks)), tidesOf(rotors, whole(len(rotors))))
		}
	}
	leftAs(t, "late ticks", []int{0, 1023, 1024}, whole(3), tidesOf([]api.Rotor{o(3, 1), o(1000, 999)}, whole(2)))
	leftAs(t, "256 ticks", span(0, 256), whole(256), tidesOf(pair(), whole(2)))
}

func TestLeftThrown(t *testing.T) {
	d := dice(2303)
	for range 150 {
		ticks, rotors := d.ticks(9, 60), d.rotors(8)
		leftAs(t, "thrown", ticks, d.numbers(len(ticks)), tidesOf(rotors, d.numbers(len(rotors))))
	}
	for range 6 {
		ticks, rotors := d.ticks(4, 1024), d.rotors(2)
		leftAs(t, "thrown, late", ticks, d.numbers(len(ticks)), tidesOf(rotors, d.numbers(len(rotors))))
	}
}

// Any names, one name twice, one rotor twice: each constituent is taken off by itself.
func TestLeftOfOneTwice(t *testing.T) {
	u := o(2, 1)
	for key, c := range map[string]struct {
		tides []api.Tide
		rest  string
	}{
		"one rotor twice":           {[]api.Tide{tide("A", u, z(1, 0)), tide("B", u, z(2, 0))}, "-9/5 -12/5"},
		"one name twice":            {[]api.Tide{tide("A", u, z(1, 0)), tide("A", o(2, -1), z(1, 0))}, "-6/5 0"},
		"one eight times":           {slices.Repeat([]api.Tide{tide("M2", u, z(1, 0))}, 8), "-24/5 -32/5"},
		"a name of 20":              {[]api.Tide{tide(strings.Repeat("z", 20), u, z(1, 0))}, "-3/5 -4/5"},
		"a name as none is told":    {[]api.Tide{tide("R9", u, z(1, 0))}, "-3/5 -4/5"},
		"one, and what takes it up": {[]api.Tide{tide("R2", u, z(1, 0)), tide("R1", u, z(-1, 0))}, "0 0"},
	} {
		x := given{ticks: []int{1}, heights: []api.Gauss{z(0, 0)}, tides: c.tides}
		if got := must(t, "Left", x); !got.is(answer{list: read(t, c.rest)}) {
			t.Errorf("Left of %s: not as it should be", key)
		}
		leftAs(t, key, x.ticks, x.heights, x.tides)
	}
}

// Each number that just fits, or just doesn't, at each step: the product, what is taken off, and in Misfit alone the squares, the Norm, the sum.
func TestLeftTooLong(t *testing.T) {
	const ok, long = api.OK, api.ErrLong
	u, zero := o(2, 1), z(0, 0)
	even, uneven := under(32*1299+7), odd(1300)
	half, other := under(32*599+7), odd(600)
	third, fourth := under(32*499+7), odd(530)
	one := func(number api.Gauss) []api.Tide { return []api.Tide{tide("R1", u, number)} }
	both := func(a, b api.Gauss) []api.Tide { return []api.Tide{tide("R1", u, a), tide("R2", o(2, -1), b)} }
	for key, c := range map[string]struct {
		ticks        []int
		heights      []api.Gauss
		tides        []api.Tide
		left, misfit api.Errno
	}{
		"a product's Num":                 {[]int{1}, []api.Gauss{zero}, one(re(wide(65534))), long, long},
		"a product's Num that fits":       {[]int{1}, []api.Gauss{zero}, one(re(wide(65533))), ok, long},
		"a product's Num, as a height is": {[]int{0}, []api.Gauss{re(wide(65535))}, one(re(wide(65535))), ok, ok},
		"a product's Den":                 {[]int{1}, []api.Gauss{zero}, one(re(under(65534))), long, long},
		"a product's Den that fits":       {[]int{1}, []api.Gauss{zero}, one(re(under(65533))), ok, long},
		"a product's Im":                  {[]int{1}, []api.Gauss{zero}, one(im(wide(65534))), long, long},
		"a product's parts together":      {[]int{1}, []api.Gauss{zero}, one(g(even, uneven)), long, long},
		"a product that is taken back":    {[]int{0}, []api.Gauss{g(even, uneven)}, one(g(even, uneven)), ok, ok},
		"a difference's Re":               {[]int{0}, []api.Gauss{re(even)}, one(re(uneven)), long, long},
		"a difference's Im":               {[]int{0}, []api.Gauss{im(even)}, one(im(uneven)), long, long},
		"a difference's Num":              {[]int{0}, []api.Gauss{re(less(65535))}, one(re(wide(65535))), long, long},
		"differences that come back":      {[]int{0}, []api.Gauss{re(even)}, both(re(uneven), re(opposite(uneven))), long, long},
		"one after the other":             {[]int{0}, []api.Gauss{re(wide(65535))}, both(re(wide(65535)), re(wide(65535))), ok, long},
		"not the other way round":         {[]int{0}, []api.Gauss{re(wide(65535))}, both(re(less(65535)), re(wide(65535))), long, long},
		"not all constituents at first":   {[]int{0}, []api.Gauss{re(less(65535))}, both(re(less(65535)), re(wide(65535))), ok, long},
		"a difference, the second rotor":  {[]int{0}, []api.Gauss{re(even)}, both(zero, re(uneven)), long, long},
		"Re's square":                     {[]int{0}, []api.Gauss{re(wide(32768))}, nil, ok, long},
		"Re's square that fits":           {[]int{0}, []api.Gauss{re(wide(32767))}, nil, ok, ok},
		"Im's square":                     {[]int{0}, []api.Gauss{im(wide(32768))}, nil, ok, long},
		"Im's square that fits":           {[]int{0}, []api.Gauss{im(wide(32767))}, nil, ok, ok},
		"the square of a Den":             {[]int{0}, []api.Gauss{re(under(32768))}, one(zero), ok, long},
		"the square of a Den that fits":   {[]int{0}, []api.Gauss{re(under(32767))}, one(zero), ok, ok},
		"both squares":                    {[]int{0}, []api.Gauss{g(half, other)}, nil, ok, long},
		"both squares that fit":           {[]int{0}, []api.Gauss{g(third, odd(500))}, nil, ok, ok},
		"the sum of two":                  {[]int{0, 1}, []api.Gauss{re(third), im(fourth)}, nil, ok, long},
		"one of two":                      {[]int{0, 1}, []api.Gauss{re(third), zero}, nil, ok, ok},
		"the other of two":                {[]int{0, 1}, []api.Gauss{zero, im(fourth)}, nil, ok, ok},
		"the last tick's rest":            {span(0, 9), append(whole(8), re(wide(40000))), one(z(1, 2)), ok, long},
		"the last tick's difference":      {span(0, 9), append(whole(8), re(under(65535))), one(z(1, 2)), long, long},
		"the last tick's product":         {[]int{0, 1024}, []api.Gauss{zero, zero}, one(re(wide(64000))), long, long},
	} {
		if rests, sum := leftAs(t, key, c.ticks, c.heights, c.tides); rests != c.left || sum != c.misfit {
			t.Errorf("%s: Left %v, not %v; Misfit %v, not %v", key, rests, c.left, sum, c.misfit)
		}
	}
}

func TestLeftLongThrown(t *testing.T) {
	d := dice(2304)
	count := map[[2]api.Errno]int{}
	for range 80 {
		ticks, rotors := d.ticks(2, 400), d.rotors(2)
		heights, numbers := d.numbers(len(ticks)), d.numbers(len(rotors))
		for _, l := range [][]api.Gauss{heights, numbers} {
			for k := range l {
				if d.below(2) == 0 {
					l[k] = d.long()
				}
			}
		}
		rests, sum := leftAs(t, "thrown, long", ticks, heights, tidesOf(rotors, numbers))
		count[[2]api.Errno{rests, sum}]++
	}
	if count[[2]api.Errno{}] < 20 || count[[2]api.Errno{api.OK, api.ErrLong}] < 10 || count[[2]api.Errno{api.ErrLong, api.ErrLong}] < 10 {
		t.Errorf("answered %v", count)
	}
}

// The order of errors: the ticks', how many constituents, how many heights, which height, which constituent, then what is too long on the way.
func TestLeftRefuses(t *testing.T) {
	both := func(what string, ticks []int, heights []api.Gauss, tides []api.Tide, want api.Errno) {
		t.Helper()
		x := given{ticks: ticks, heights: heights, tides: tides}
		refused(t, "Left", what, x, want)
		refused(t, "Misfit", what, x, want)
	}
	some := tidesOf(eight(), whole(8))
	nine := append(slices.Clone(some), tide("R9", o(5, 2), z(1, 0)))
	for key, w := range listsOfWrongTicks() {
		both(key, w.l, whole(len(w.l)), some, w.want)
		both(key+", all else wrong", w.l, make([]api.Gauss, 1), make([]api.Tide, 2), w.want)
		both(key+", more constituents than may be", w.l, nil, nine, w.want)
	}
	for _, k := range []int{9, 10, 24, 1000} {
		key := strconv.Itoa(k) + " constituents"
		both(key, span(0, 2), whole(2), slices.Repeat(nine, k)[:k], api.ErrLong)
		both(key+", no ticks", nil, nil, slices.Repeat(nine, k)[:k], api.ErrLong)
		both(key+", one height more", span(0, 2), whole(3), slices.Repeat(nine, k)[:k], api.ErrLong)
		both(key+", empty ones", span(0, 2), make([]api.Gauss, 2), make([]api.Tide, k), api.ErrLong)
	}
	for ticks := range 4 {
		for heights := range 6 {
			if ticks != heights {
				key := strconv.Itoa(ticks) + " ticks, heights: " + strconv.Itoa(heights)
				both(key, span(0, ticks), whole(heights), some, api.ErrArg)
				both(key+", empty ones", span(0, ticks), make([]api.Gauss, heights), make([]api.Tide, 8), api.ErrArg)
				both(key+", no constituents", span(0, ticks), whole(heights), nil, api.ErrArg)
			}
		}
	}
	for key, w := range wrongNumbers() {
		for place := range 3 {
			alone, ahead := w.with(place, 3)
			what := "the height " + strconv.Itoa(place) + ", " + key
			both(what, span(0, 3), alone, some, w.want)
			both(what+", others behind", span(0, 3), ahead, make([]api.Tide, 8), w.want)
			both(what+", no constituents", span(0, 3), ahead, nil, w.want)
			both(what+", behind what is too long", span(0, 4), append([]api.Gauss{re(under(65535))}, ahead...), some, w.want)
		}
	}
}

// Each place of a constituent that may not be: those behind it have another error.
func TestLeftRefusesConstituents(t *testing.T) {
	for key, w := range wrongTides() {
		for place := range 8 {
			tides := tidesOf(eight(), whole(8))
			tides[place] = w.c
			what := "the constituent " + strconv.Itoa(place) + ", " + key
			long := given{ticks: []int{3}, heights: []api.Gauss{re(under(65535))}, tides: tides}
			behind := given{ticks: span(0, 2), heights: whole(2), tides: slices.Clone(tides)}
			for k := place + 1; k < 8; k++ {
				behind.tides[k] = api.Tide{}
				if w.want == api.ErrName {
					behind.tides[k].Name = "M2"
				}
			}
			for _, name := range []string{"Left", "Misfit"} {
				refused(t, name, what+", no ticks", given{tides: tides}, w.want)
				refused(t, name, what+", and what is too long", long, w.want)
				refused(t, name, what+", others behind", behind, w.want)
			}
		}
	}
}

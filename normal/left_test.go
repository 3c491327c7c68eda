package normal_test

import (
	"strconv"
	"testing"

	"slackwater/api"
	"slackwater/normal"
)

// P21.4

func TestLeft(t *testing.T) {
	u := pair()[:1]
	for i, c := range []struct {
		ticks   []int
		heights []string
		rotors  []api.Rotor
		numbers []string
		want    api.Ratio
	}{
		{[]int{0, 1}, []string{"1 0", "3/5 4/5"}, u, []string{"1 0"}, q(0, 1)},
		{[]int{0, 1}, []string{"1 0", "3/5 4/5"}, u, []string{"0 0"}, q(2, 1)},
		{[]int{0, 1}, []string{"1 0", "3/5 4/5"}, pair(), []string{"1 0", "0 0"}, q(0, 1)},
		{[]int{0, 1}, []string{"1 0", "3/5 4/5"}, pair(), []string{"0 0", "1 0"}, q(64, 25)},
		{[]int{0, 1}, []string{"1 0", "0 0"}, u, []string{"1/2 0"}, q(1, 2)},
		{[]int{0, 1}, []string{"1 0", "0 0"}, nil, nil, q(1, 1)},
		{[]int{3}, []string{"-1/2 2/3"}, nil, nil, q(25, 36)},
		{[]int{1}, []string{"0 0"}, u, []string{"0 5"}, q(25, 1)},
		{[]int{1}, []string{"-4 4"}, u, []string{"0 5"}, q(1, 1)},
		{nil, nil, pair(), []string{"1 0", "1/2 7"}, q(0, 1)},
		{nil, nil, nil, nil, q(0, 1)},
	} {
		if got := mustLeft(t)(normal.Left(c.ticks, read(t, c.heights...), c.rotors, read(t, c.numbers...))); !sameRatio(got, c.want) {
			t.Errorf("Left %d: not as it should be", i)
		}
	}
}

// leftAs holds what is told, or that it is refused as too long, against the definition.
func leftAs(t *testing.T, what string, ticks []int, heights []api.Gauss, rotors []api.Rotor, numbers []api.Gauss) (long bool) {
	t.Helper()
	want, long := leftOf(ticks, heights, rotors, numbers)
	got, f := normal.Left(ticks, heights, rotors, numbers)
	if long {
		if f != nowhere(api.ErrLong) || !sameRatio(got, api.Ratio{}) {
			t.Errorf("Left, %s: %v at %d, not too long alone", what, f.Err, f.At)
		}
		return long
	}
	if !sameRatio(mustLeft(t)(got, f), want) {
		t.Errorf("Left, %s: not as it should be", what)
	}
	return long
}

func TestLeftOverTicks(t *testing.T) {
	for _, ticks := range [][]int{nil, {0}, {1}, {5}, {0, 1}, {0, 7}, {3, 4, 9}, span(0, 20), span(7, 16), {0, 100, 101}, {99, 130}} {
		for _, rotors := range [][]api.Rotor{nil, pair(), eight()[:3], eight()[5:], eight()} {
			leftAs(t, "small numbers", ticks, whole(len(ticks)), rotors, whole(len(rotors)))
		}
	}
	leftAs(t, "late ticks", []int{0, 1023, 1024}, whole(3), []api.Rotor{o(3, 1), o(1000, 999)}, whole(2))
	leftAs(t, "256 ticks", span(0, 256), whole(256), pair()[:1], whole(1))
}

func TestLeftThrown(t *testing.T) {
	d := dice(215)
	for range 150 {
		ticks, rotors := d.ticks(9, 60), d.rotors(8)
		leftAs(t, "thrown", ticks, d.numbers(len(ticks)), rotors, d.numbers(len(rotors)))
	}
	for range 6 {
		ticks, rotors := d.ticks(4, 1024), d.rotors(2)
		leftAs(t, "thrown, late", ticks, d.numbers(len(ticks)), rotors, d.numbers(len(rotors)))
	}
}

// Each number that just fits, or just doesn't, at each step: the product, what is taken off, the squares, the Norm, the sum.
func TestLeftTooLong(t *testing.T) {
	u := []api.Rotor{o(2, 1)}
	none := g(nought(), nought())
	even, odd := under(32*1299+7), r(false, ints(1), full(1300, 1<<32-1))
	half, other := under(32*599+7), r(false, ints(1), full(600, 1<<32-1))
	third, fourth := under(32*499+7), r(false, ints(1), full(530, 1<<32-1))
	one := func(a api.Ratio) []api.Gauss { return []api.Gauss{g(a, nought())} }
	for key, c := range map[string]struct {
		ticks   []int
		heights []api.Gauss
		rotors  []api.Rotor
		numbers []api.Gauss
		long    bool
	}{
		"a product's Num":                 {[]int{1}, one(nought()), u, one(wide(65534)), true},
		"a product's Num, as a height is": {[]int{0}, one(wide(65535)), u, one(wide(65535)), false},
		"a product's Den":                 {[]int{1}, one(nought()), u, one(under(65534)), true},
		"a product's Im":                  {[]int{1}, one(nought()), u, []api.Gauss{g(nought(), wide(65534))}, true},
		"a product's Im alone":            {[]int{1}, []api.Gauss{g(nought(), nought())}, u, []api.Gauss{g(even, odd)}, true},
		"a product that is taken back":    {[]int{0}, []api.Gauss{g(even, odd)}, u, []api.Gauss{g(even, odd)}, false},
		"a difference's Re":               {[]int{0}, one(even), u, one(odd), true},
		"a difference's Im":               {[]int{0}, []api.Gauss{g(nought(), even)}, u, []api.Gauss{g(nought(), odd)}, true},
		"differences that come back":      {[]int{0}, one(even), pair(), []api.Gauss{g(odd, nought()), g(opposite(odd), nought())}, true},
		"a difference, the second rotor":  {[]int{0}, one(even), pair(), []api.Gauss{none, g(odd, nought())}, true},
		"Re's square":                     {[]int{0}, one(wide(32768)), nil, nil, true},
		"Re's square that fits":           {[]int{0}, one(wide(32767)), nil, nil, false},
		"Im's square":                     {[]int{0}, []api.Gauss{g(nought(), wide(32768))}, nil, nil, true},
		"Im's square that fits":           {[]int{0}, []api.Gauss{g(nought(), wide(32767))}, nil, nil, false},
		"the square of a Den":             {[]int{0}, one(under(32768)), u, one(nought()), true},
		"the square of a Den that fits":   {[]int{0}, one(under(32767)), u, one(nought()), false},
		"both squares":                    {[]int{0}, []api.Gauss{g(half, other)}, nil, nil, true},
		"both squares that fit":           {[]int{0}, []api.Gauss{g(third, r(false, ints(1), full(500, 1<<32-1)))}, nil, nil, false},
		"the sum of two":                  {[]int{0, 1}, []api.Gauss{g(third, nought()), g(nought(), fourth)}, nil, nil, true},
		"one of two":                      {[]int{0, 1}, []api.Gauss{g(third, nought()), none}, nil, nil, false},
		"the other of two":                {[]int{0, 1}, []api.Gauss{none, g(nought(), fourth)}, nil, nil, false},
		"the last tick's height":          {span(0, 9), append(whole(8), one(wide(40000))...), u, whole(1), true},
	} {
		if long := leftAs(t, key, c.ticks, c.heights, c.rotors, c.numbers); long != c.long {
			t.Errorf("%s: too long is %v", key, long)
		}
	}
}

func TestLeftLongThrown(t *testing.T) {
	d := dice(216)
	count := map[bool]int{}
	for range 90 {
		ticks, rotors := d.ticks(2, 400), d.rotors(2)
		heights, numbers := d.numbers(len(ticks)), d.numbers(len(rotors))
		if k := len(heights); k > 0 && d.below(2) == 0 {
			heights[d.below(k)] = d.long()
		}
		if k := len(numbers); k > 0 && d.below(2) == 0 {
			numbers[d.below(k)] = d.long()
		}
		count[leftAs(t, "thrown, long", ticks, heights, rotors, numbers)]++
	}
	if count[true] < 20 || count[false] < 20 {
		t.Errorf("too long, and not: %v", count)
	}
}

func TestLeftRefuses(t *testing.T) {
	refused := func(what string, ticks []int, heights []api.Gauss, rotors []api.Rotor, numbers []api.Gauss, want api.Fault) {
		t.Helper()
		if a, f := normal.Left(ticks, heights, rotors, numbers); f != want || !sameRatio(a, api.Ratio{}) {
			t.Errorf("Left, %s: %v at %d, not %v at %d alone", what, f.Err, f.At, want.Err, want.At)
		}
	}
	empty := func(k int) []api.Gauss { return make([]api.Gauss, k) }
	for key, w := range listsOfWrongTicks() {
		refused(key, w.l, whole(len(w.l)), pair(), whole(2), w.want)
		refused(key+", all else wrong", w.l, empty(1), []api.Rotor{{}, {}}, empty(3), w.want)
	}
	for key, w := range listsOfWrongRotors() {
		refused(key, []int{0, 1}, whole(2), w.l, whole(len(w.l)), w.want)
		refused(key+", all else wrong", []int{0, 1}, empty(3), w.l, empty(1), w.want)
	}
	for has := range 4 {
		for told := range 6 {
			if has == told {
				continue
			}
			key := strconv.Itoa(has) + ", not " + strconv.Itoa(told)
			refused("heights "+key, span(0, has), whole(told), pair(), whole(2), nowhere(api.ErrArg))
			refused("heights and numbers "+key, span(0, has), empty(told), pair(), empty(2), nowhere(api.ErrArg))
			refused("numbers "+key, []int{0, 1}, whole(2), eight()[:has], whole(told), nowhere(api.ErrArg))
			refused("numbers, and empty ones "+key, []int{0, 1}, whole(2), eight()[:has], empty(told), nowhere(api.ErrArg))
			refused("numbers, and what is too long "+key, []int{1}, []api.Gauss{g(wide(40000), nought())}, eight()[:has], whole(told), nowhere(api.ErrArg))
		}
	}
	for key, w := range listsOfWrongNumbers() {
		refused("heights "+key, span(0, 6), w.l, pair(), whole(2), w.want)
		refused("heights, and numbers "+key, span(0, 6), w.l, eight()[:6], empty(6), w.want)
		refused("heights, and one number more "+key, span(0, 6), w.l, pair(), whole(3), w.want)
		refused("heights, no rotors "+key, span(0, 6), w.l, nil, nil, w.want)
		refused("numbers "+key, span(0, 3), whole(3), eight()[:6], w.l, w.want)
		refused("numbers, no ticks "+key, nil, nil, eight()[:6], w.l, w.want)
		refused("numbers, and what is too long "+key, span(0, 1), []api.Gauss{g(wide(40000), nought())}, eight()[:6], w.l, w.want)
	}
}

package normal_test

import (
	"math"
	"math/big"
	"slices"
	"strconv"
	"testing"

	"slackwater/api"
	"slackwater/gauss"
)

// q writes the fraction n over d, d above 0, without calling what is tested.
func q(n, d int64) api.Ratio { return fraction(big.NewRat(n, d)) }

// fraction writes one of the library's fractions.
func fraction(f *big.Rat) api.Ratio {
	return api.Ratio{Neg: f.Sign() < 0, Num: wordsOf(f.Num()), Den: wordsOf(f.Denom())}
}

func wordsOf(n *big.Int) []uint32 {
	rest, low := new(big.Int).Abs(n), big.NewInt(1<<32-1)
	var words []uint32
	for rest.Sign() != 0 {
		words = append(words, uint32(new(big.Int).And(rest, low).Uint64()))
		rest.Rsh(rest, 32)
	}
	return words
}

// g writes a number of two parts, z one of two whole parts.
func g(re, im api.Ratio) api.Gauss { return api.Gauss{Re: re, Im: im} }

func z(re, im int64) api.Gauss { return g(q(re, 1), q(im, 1)) }

// r writes a sign and two lists as they are.
func r(neg bool, num, den []uint32) api.Ratio { return api.Ratio{Neg: neg, Num: num, Den: den} }

// o writes a rotor, ints words as they are.
func o(far, near int32) api.Rotor { return api.Rotor{Far: far, Near: near} }

func ints(words ...uint32) []uint32 { return words }

// full is a list of so many words that are all x, two is 2 to the power k.
func full(words int, x uint32) []uint32 { return slices.Repeat([]uint32{x}, words) }

func two(k int) []uint32 { return append(make([]uint32, k/32), 1<<(k%32)) }

// wide and under are 2 to the power k, and 1 over it.
func wide(k int) api.Ratio { return r(false, two(k), ints(1)) }

func under(k int) api.Ratio { return r(false, ints(1), two(k)) }

// nought is the fraction 0.
func nought() api.Ratio { return q(0, 1) }

// span are the ticks from a on, below b.
func span(a, b int) []int {
	var l []int
	for t := a; t < b; t++ {
		l = append(l, t)
	}
	return l
}

// pair is a rotor and its conjugate.
func pair() []api.Rotor { return []api.Rotor{o(2, 1), o(2, -1)} }

// eight are unlike rotors, some of which are much alike.
func eight() []api.Rotor {
	return []api.Rotor{o(2, 1), o(2, -1), o(1, 2), o(1, -2), o(3, 1), o(3, -1), o(1000, 999), o(999, -1000)}
}

// widest are the rotors below whose numbers the greatest stand.
func widest(k int) []api.Rotor {
	var l []api.Rotor
	for near := int32(999); len(l) < k; near-- {
		if x := o(1000, near); big.NewInt(0).GCD(nil, nil, big.NewInt(1000), big.NewInt(int64(near))).Int64() == 1 {
			l = append(l, x)
		}
	}
	return l
}

// read makes numbers of texts.
func read(t *testing.T, texts ...string) []api.Gauss {
	t.Helper()
	var l []api.Gauss
	for _, s := range texts {
		a, e := gauss.Parse(s)
		if e != api.OK {
			t.Fatalf("%q: %v", s, e)
		}
		l = append(l, a)
	}
	return l
}

// whole are so many small whole numbers.
func whole(k int) []api.Gauss {
	var l []api.Gauss
	for i := range k {
		l = append(l, z(int64(i%7-3), int64(i%5-1)))
	}
	return l
}

// A list that is nil and an empty one are the same.

func sameRatio(a, b api.Ratio) bool {
	return a.Neg == b.Neg && slices.Equal(a.Num, b.Num) && slices.Equal(a.Den, b.Den)
}

func sameGauss(a, b api.Gauss) bool { return sameRatio(a.Re, b.Re) && sameRatio(a.Im, b.Im) }

func same(a, b []api.Gauss) bool { return slices.EqualFunc(a, b, sameGauss) }

func sameRows(a, b [][]api.Gauss) bool { return slices.EqualFunc(a, b, same) }

// at writes a fault, nowhere one at no place.
func at(e api.Errno, place int) api.Fault { return api.Fault{Err: e, At: place} }

func nowhere(e api.Errno) api.Fault { return at(e, -1) }

// mustRows, mustSide and mustLeft hand on what may not be refused and must be in its one form.
func mustRows(t *testing.T) func(m [][]api.Gauss, f api.Fault) [][]api.Gauss {
	return func(m [][]api.Gauss, f api.Fault) [][]api.Gauss {
		t.Helper()
		for _, row := range m {
			mustSide(t)(row, f)
		}
		if f != (api.Fault{}) {
			t.Fatalf("answered %v at %d", f.Err, f.At)
		}
		return m
	}
}

func mustSide(t *testing.T) func(l []api.Gauss, f api.Fault) []api.Gauss {
	return func(l []api.Gauss, f api.Fault) []api.Gauss {
		t.Helper()
		if f != (api.Fault{}) {
			t.Fatalf("answered %v at %d", f.Err, f.At)
		}
		for i, a := range l {
			if e := gauss.Check(a); e != api.OK {
				t.Fatalf("the number %d is not in its one form: %v", i, e)
			}
		}
		return l
	}
}

func mustLeft(t *testing.T) func(a api.Ratio, f api.Fault) api.Ratio {
	return func(a api.Ratio, f api.Fault) api.Ratio {
		t.Helper()
		mustSide(t)([]api.Gauss{g(a, nought())}, f)
		return a
	}
}

// wrongTicks is a list of ticks that may not be, and its fault.
type wrongTicks struct {
	l    []int
	want api.Fault
}

func listsOfWrongTicks() map[string]wrongTicks {
	lists := map[string]wrongTicks{
		"257 that rise":            {span(0, 257), nowhere(api.ErrLong)},
		"257 noughts":              {make([]int, 257), nowhere(api.ErrLong)},
		"257, the last too late":   {append(span(0, 256), 1025), nowhere(api.ErrLong)},
		"1,025 that rise":          {span(0, 1025), nowhere(api.ErrLong)},
		"65,536 noughts":           {make([]int, 1<<16), nowhere(api.ErrLong)},
		"one twice":                {[]int{1, 1}, at(api.ErrArg, 1)},
		"0 twice":                  {[]int{0, 0}, at(api.ErrArg, 1)},
		"1,024 twice":              {[]int{1024, 1024}, at(api.ErrArg, 1)},
		"one twice, then too late": {[]int{0, 5, 5, 1025}, at(api.ErrArg, 2)},
		"too late, then one twice": {[]int{0, 1025, 1025}, at(api.ErrArg, 1)},
		"back":                     {[]int{0, 7, 6, 8}, at(api.ErrArg, 2)},
		"back to the first":        {[]int{3, 7, 3}, at(api.ErrArg, 2)},
		"back twice":               {[]int{3, 2, 1}, at(api.ErrArg, 1)},
		"below 0 behind others":    {[]int{0, 1, -1}, at(api.ErrArg, 2)},
		"from below 0 on":          {[]int{-2, -1, 0, 1}, at(api.ErrArg, 0)},
		"to above 1,024":           {[]int{0, 1023, 1024, 1025, 1026}, at(api.ErrArg, 3)},
		"256, the last one twice":  {append(span(0, 255), 254), at(api.ErrArg, 255)},
		"256, the last too late":   {append(span(0, 255), 1025), at(api.ErrArg, 255)},
		"256 noughts":              {make([]int, 256), at(api.ErrArg, 1)},
	}
	for _, t := range []int{-1, -2, -1024, -1025, 1025, 1026, 2048, 1 << 20, 1 << 32, -1 << 32, 1<<32 + 1, math.MaxInt, math.MinInt, math.MaxInt32, math.MinInt32} {
		lists[strconv.Itoa(t)] = wrongTicks{[]int{t}, at(api.ErrArg, 0)}
		lists[strconv.Itoa(t)+" behind 3"] = wrongTicks{[]int{3, t, 2000}, at(api.ErrArg, 1)}
	}
	return lists
}

// noRotors may not be.
func noRotors() []api.Rotor {
	return []api.Rotor{o(0, 0), o(0, 1), o(1, 0), o(1, 1), o(1, -1), o(2, 4), o(6, -9), o(1001, 1), o(1, 1001), o(1, -1001), o(-8, 1), o(-2, -1), o(65538, 1), o(math.MinInt32, math.MaxInt32)}
}

// wrongRotors is a list of rotors that may not be, and its fault.
type wrongRotors struct {
	l    []api.Rotor
	want api.Fault
}

func listsOfWrongRotors() map[string]wrongRotors {
	u, v := o(2, 1), o(3, 1)
	lists := map[string]wrongRotors{
		"nine unlike ones":         {widest(9), nowhere(api.ErrLong)},
		"nine empty ones":          {make([]api.Rotor, 9), nowhere(api.ErrLong)},
		"one nine times":           {slices.Repeat([]api.Rotor{u}, 9), nowhere(api.ErrLong)},
		"a thousand":               {make([]api.Rotor, 1000), nowhere(api.ErrLong)},
		"one twice":                {[]api.Rotor{u, u}, at(api.ErrThere, 1)},
		"one twice, one wrong":     {[]api.Rotor{u, v, u, {}}, at(api.ErrThere, 2)},
		"one wrong, one twice":     {[]api.Rotor{u, {}, u}, at(api.ErrRotor, 1)},
		"a wrong one twice":        {[]api.Rotor{{}, {}}, at(api.ErrRotor, 0)},
		"a wrong one twice, later": {[]api.Rotor{u, o(1, 1), o(1, 1)}, at(api.ErrRotor, 1)},
		"two twice":                {[]api.Rotor{u, v, v, u}, at(api.ErrThere, 2)},
	}
	for i, x := range noRotors() {
		for place := range 8 {
			l := eight()
			l[place] = x
			lists["wrong "+strconv.Itoa(i)+" at "+strconv.Itoa(place)] = wrongRotors{l, at(api.ErrRotor, place)}
		}
	}
	for second := range 8 {
		for first := range second {
			l := eight()
			l[second] = l[first]
			lists[strconv.Itoa(first)+" again at "+strconv.Itoa(second)] = wrongRotors{l, at(api.ErrThere, second)}
		}
	}
	return lists
}

// wrongRatios are fractions that may not be, and their errors.
func wrongRatios() map[string]struct {
	a    api.Ratio
	want api.Errno
} {
	return map[string]struct {
		a    api.Ratio
		want api.Errno
	}{
		"a Num too long":      {r(false, full(2049, 1), ints(1)), api.ErrLong},
		"a Den too long":      {r(true, ints(1), full(2049, 1)), api.ErrLong},
		"too long and nought": {r(true, full(2049, 0), nil), api.ErrLong},
		"nothing":             {api.Ratio{}, api.ErrNormal},
		"over a nought":       {r(false, ints(1), ints(0)), api.ErrNormal},
		"0 that is Neg":       {r(true, nil, ints(1)), api.ErrNormal},
		"0 over 2":            {r(false, nil, ints(2)), api.ErrNormal},
		"2 over 4":            {r(false, ints(2), ints(4)), api.ErrNormal},
		"a rough Num":         {r(false, ints(1, 0), ints(2)), api.ErrNormal},
		"a rough Den":         {r(false, ints(1), ints(2, 0)), api.ErrNormal},
	}
}

// wrongNumbers are six numbers that may not be, and the fault.
type wrongNumbers struct {
	l    []api.Gauss
	want api.Fault
}

func listsOfWrongNumbers() map[string]wrongNumbers {
	lists := map[string]wrongNumbers{"six empty ones": {make([]api.Gauss, 6), at(api.ErrNormal, 0)}}
	long, rough := r(false, full(2049, 1), ints(1)), r(false, ints(2), ints(4))
	put := func(key string, want api.Fault, numbers ...api.Gauss) {
		lists[key] = wrongNumbers{append(whole(want.At), append(numbers, whole(6)...)...)[:6], want}
	}
	for key, w := range wrongRatios() {
		for place := range 6 {
			name := key + " at " + strconv.Itoa(place)
			put("Re, "+name, at(w.want, place), g(w.a, nought()))
			put("Im, "+name, at(w.want, place), g(q(-1, 2), w.a))
		}
		put("Re, ahead of others, "+key, at(w.want, 1), g(w.a, long), g(rough, rough), g(long, long))
		put("Im, ahead of others, "+key, at(w.want, 2), g(nought(), w.a), g(long, long), g(rough, rough))
	}
	put("Re rough, Im too long", at(api.ErrNormal, 3), g(rough, long))
	put("Re too long, Im rough", at(api.ErrLong, 3), g(long, rough))
	return lists
}

// dice is a source of numbers that is the same at each run.
type dice uint64

func (d *dice) next() uint64 {
	*d = *d*6364136223846793005 + 1442695040888963407
	x := uint64(*d)
	return x ^ x>>29
}

func (d *dice) below(k int) int { return int(d.next() >> 11 % uint64(k)) }

// ticks throws at most so many ticks up to a last one.
func (d *dice) ticks(most, last int) []int {
	var l []int
	for range d.below(most + 1) {
		l = append(l, d.below(last+1))
	}
	slices.Sort(l)
	return slices.Compact(l)
}

// rotors throws at most so many unlike rotors.
func (d *dice) rotors(most int) []api.Rotor {
	var l []api.Rotor
	for range d.below(most + 1) {
		if x := d.rotor(); !slices.Contains(l, x) {
			l = append(l, x)
		}
	}
	return l
}

func (d *dice) rotor() api.Rotor {
	top := []int{5, 1000}[d.below(2)]
	for {
		far, near := int64(1+d.below(top)), int64(d.below(2*top+1)-top)
		size := max(near, -near)
		if near != 0 && far != size && new(big.Int).GCD(nil, nil, big.NewInt(far), big.NewInt(size)).Int64() == 1 {
			return o(int32(far), int32(near))
		}
	}
}

// numbers throws so many complex fractions of a few words.
func (d *dice) numbers(k int) []api.Gauss {
	var l []api.Gauss
	for range k {
		l = append(l, g(d.fraction(), d.fraction()))
	}
	return l
}

func (d *dice) fraction() api.Ratio {
	num, den := new(big.Int), big.NewInt(1)
	for range d.below(4) {
		num.Add(num.Lsh(num, 31), big.NewInt(int64(d.below(1<<31))))
		den.Add(den.Lsh(den, 31), big.NewInt(int64(d.below(1<<31))))
	}
	if d.below(2) == 0 {
		num.Neg(num)
	}
	return fraction(new(big.Rat).SetFrac(num, den))
}

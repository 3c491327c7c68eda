package analyse_test

import (
	"math"
	"math/big"
	"slices"
	"strconv"
	"strings"
	"testing"

	"slackwater/analyse"
	"slackwater/api"
	"slackwater/gauss"
)

// q writes the fraction n over d, d above 0, without calling what is tested.
func q(n, d int64) api.Ratio { return fraction(big.NewRat(n, d)) }

// fraction writes one of the library's fractions.
func fraction(f *big.Rat) api.Ratio {
	return api.Ratio{Neg: f.Sign() < 0, Num: wordsOf(f.Num()), Den: wordsOf(f.Denom())}
}

func wordsOf(n *big.Int) []uint32 {
	rest, low := new(big.Int).Abs(n), big.NewInt(1<<32-1)
	var words []uint32
	for rest.Sign() != 0 {
		words = append(words, uint32(new(big.Int).And(rest, low).Uint64()))
		rest.Rsh(rest, 32)
	}
	return words
}

// g writes a number of two parts, z one of two whole ones, re and im one of which the other part is 0.
func g(re, im api.Ratio) api.Gauss { return api.Gauss{Re: re, Im: im} }

func z(x, y int64) api.Gauss { return g(q(x, 1), q(y, 1)) }

func re(a api.Ratio) api.Gauss { return g(a, q(0, 1)) }

func im(a api.Ratio) api.Gauss { return g(q(0, 1), a) }

// r writes a sign and two lists as they are.
func r(neg bool, num, den []uint32) api.Ratio { return api.Ratio{Neg: neg, Num: num, Den: den} }

// o writes a rotor, ints words as they are.
func o(far, near int32) api.Rotor { return api.Rotor{Far: far, Near: near} }

func ints(words ...uint32) []uint32 { return words }

// full is a list of so many words that are all x, two is 2 to the power k.
func full(words int, x uint32) []uint32 { return slices.Repeat([]uint32{x}, words) }

func two(k int) []uint32 { return append(make([]uint32, k/32), 1<<(k%32)) }

// wide, under and less are 2 to the power k, 1 over it, and 0 less it.
func wide(k int) api.Ratio { return r(false, two(k), ints(1)) }

func under(k int) api.Ratio { return r(false, ints(1), two(k)) }

func less(k int) api.Ratio { return r(true, two(k), ints(1)) }

// odd has nothing in common below with under.
func odd(words int) api.Ratio { return r(false, ints(1), full(words, 1<<32-1)) }

// opposite is the fraction with the other sign.
func opposite(a api.Ratio) api.Ratio {
	a.Neg = !a.Neg && len(a.Num) > 0
	return a
}

// span are the ticks from a on, below b.
func span(a, b int) []int {
	var l []int
	for t := a; t < b; t++ {
		l = append(l, t)
	}
	return l
}

// pair is a rotor and its conjugate.
func pair() []api.Rotor { return []api.Rotor{o(2, 1), o(2, -1)} }

// eight are unlike rotors, some of which are much alike.
func eight() []api.Rotor {
	return []api.Rotor{o(2, 1), o(2, -1), o(1, 2), o(1, -2), o(3, 1), o(3, -1), o(1000, 999), o(999, -1000)}
}

// read makes numbers of texts.
func read(t *testing.T, texts ...string) []api.Gauss {
	t.Helper()
	var l []api.Gauss
	for _, s := range texts {
		a, e := gauss.Parse(s)
		if e != api.OK {
			t.Fatalf("%q: %v", s, e)
		}
		l = append(l, a)
	}
	return l
}

// whole are so many small whole numbers.
func whole(k int) []api.Gauss {
	var l []api.Gauss
	for i := range k {
		l = append(l, z(int64(i%7-3), int64(i%5-1)))
	}
	return l
}

// tidesOf are the constituents of an analysis: R1, R2, .. of these rotors, with these numbers.
func tidesOf(rotors []api.Rotor, numbers []api.Gauss) []api.Tide {
	var l []api.Tide
	for i, u := range rotors {
		l = append(l, api.Tide{Name: "R" + strconv.Itoa(i+1), Rotor: u, Number: numbers[i]})
	}
	return l
}

// numbersOf are the Numbers of constituents.
func numbersOf(l []api.Tide) []api.Gauss {
	var numbers []api.Gauss
	for _, c := range l {
		numbers = append(numbers, c.Number)
	}
	return numbers
}

// A list that is nil and an empty one are the same.

func sameRatio(a, b api.Ratio) bool {
	return a.Neg == b.Neg && slices.Equal(a.Num, b.Num) && slices.Equal(a.Den, b.Den)
}

func sameGauss(a, b api.Gauss) bool { return sameRatio(a.Re, b.Re) && sameRatio(a.Im, b.Im) }

func same(a, b []api.Gauss) bool { return slices.EqualFunc(a, b, sameGauss) }

func sameTide(a, b api.Tide) bool {
	return a.Name == b.Name && a.Rotor == b.Rotor && sameGauss(a.Number, b.Number)
}

func sameTides(a, b []api.Tide) bool { return slices.EqualFunc(a, b, sameTide) }

// given is what a call is handed.
type given struct {
	ticks   []int
	heights []api.Gauss
	rotors  []api.Rotor
	tides   []api.Tide
	samples []api.Sample
}

// answer is what any of the calls answers: Exact and Samples constituents, Left a list, Misfit a sum, Heights ticks and a list.
type answer struct {
	tides []api.Tide
	ticks []int
	list  []api.Gauss
	sum   api.Ratio
	e     api.Errno
}

func (a answer) is(b answer) bool {
	return a.e == b.e && sameTides(a.tides, b.tides) && slices.Equal(a.ticks, b.ticks) && same(a.list, b.list) && sameRatio(a.sum, b.sum)
}

// calls are the five.
func calls() map[string]func(x given) answer {
	return map[string]func(x given) answer{
		"Exact": func(x given) answer {
			l, e := analyse.Exact(x.ticks, x.heights, x.rotors)
			return answer{tides: l, e: e}
		},
		"Left": func(x given) answer {
			l, e := analyse.Left(x.ticks, x.heights, x.tides)
			return answer{list: l, e: e}
		},
		"Misfit": func(x given) answer {
			s, e := analyse.Misfit(x.ticks, x.heights, x.tides)
			return answer{sum: s, e: e}
		},
		"Samples": func(x given) answer {
			l, e := analyse.Samples(x.samples, x.rotors)
			return answer{tides: l, e: e}
		},
		"Heights": func(x given) answer {
			ticks, l, e := analyse.Heights(x.samples)
			return answer{ticks: ticks, list: l, e: e}
		},
	}
}

// refused looks whether a call answers just this error, and nothing beside it.
func refused(t *testing.T, name, what string, x given, want api.Errno) {
	t.Helper()
	if got := calls()[name](x); !got.is(answer{e: want}) {
		t.Errorf("%s, %s: %v, %d constituents, %d ticks, %d numbers, not %v alone", name, what, got.e, len(got.tides), len(got.ticks), len(got.list), want)
	}
}

// must hands on what a call answers, which may not be refused and must be in its one form.
func must(t *testing.T, name string, x given) answer {
	t.Helper()
	got := calls()[name](x)
	if got.e != api.OK {
		t.Fatalf("%s answered %v", name, got.e)
	}
	numbers := append(numbersOf(got.tides), got.list...)
	if name == "Misfit" {
		numbers = append(numbers, re(got.sum))
	}
	for i, a := range numbers {
		if e := gauss.Check(a); e != api.OK {
			t.Fatalf("%s: the number %d is not in its one form: %v", name, i, e)
		}
	}
	return got
}

// wrongTicks is a list of ticks that may not be, and the error.
type wrongTicks struct {
	l    []int
	want api.Errno
}

func listsOfWrongTicks() map[string]wrongTicks {
	lists := map[string]wrongTicks{
		"257 that rise":            {span(0, 257), api.ErrLong},
		"257 noughts":              {make([]int, 257), api.ErrLong},
		"257, the last too late":   {append(span(0, 256), 1025), api.ErrLong},
		"1,025 that rise":          {span(0, 1025), api.ErrLong},
		"65,536 noughts":           {make([]int, 1<<16), api.ErrLong},
		"one twice":                {[]int{1, 1}, api.ErrArg},
		"0 twice":                  {[]int{0, 0}, api.ErrArg},
		"back":                     {[]int{0, 7, 6, 8}, api.ErrArg},
		"back to the first":        {[]int{3, 7, 3}, api.ErrArg},
		"below 0 behind others":    {[]int{0, 1, -1}, api.ErrArg},
		"from below 0 on":          {[]int{-2, -1, 0, 1}, api.ErrArg},
		"to above 1,024":           {[]int{0, 1023, 1024, 1025, 1026}, api.ErrArg},
		"256, the last one twice":  {append(span(0, 255), 254), api.ErrArg},
		"256, the last too late":   {append(span(0, 255), 1025), api.ErrArg},
		"256, of which none rises": {make([]int, 256), api.ErrArg},
	}
	for _, t := range []int{-1, -1024, 1025, 1 << 20, 1 << 32, math.MaxInt, math.MinInt} {
		lists[strconv.Itoa(t)] = wrongTicks{[]int{t}, api.ErrArg}
		lists[strconv.Itoa(t)+" behind 3"] = wrongTicks{[]int{3, t, 2000}, api.ErrArg}
	}
	return lists
}

// noRotors may not be.
func noRotors() []api.Rotor {
	return []api.Rotor{o(0, 0), o(0, 1), o(1, 0), o(1, 1), o(1, -1), o(2, 4), o(6, -9), o(1001, 1), o(1, 1001), o(1, -1001), o(-8, 1), o(-2, -1), o(65538, 1), o(math.MinInt32, math.MaxInt32)}
}

// wrongRotors is a list of rotors that may not be, and the error.
type wrongRotors struct {
	l    []api.Rotor
	want api.Errno
}

func listsOfWrongRotors() map[string]wrongRotors {
	u, v := o(2, 1), o(3, 1)
	lists := map[string]wrongRotors{
		"nine unlike ones":     {append(eight(), o(5, 2)), api.ErrLong},
		"nine empty ones":      {make([]api.Rotor, 9), api.ErrLong},
		"one nine times":       {slices.Repeat([]api.Rotor{u}, 9), api.ErrLong},
		"a thousand":           {make([]api.Rotor, 1000), api.ErrLong},
		"one twice":            {[]api.Rotor{u, u}, api.ErrThere},
		"one twice, one wrong": {[]api.Rotor{u, v, u, {}}, api.ErrThere},
		"one wrong, one twice": {[]api.Rotor{u, {}, u}, api.ErrRotor},
		"a wrong one twice":    {[]api.Rotor{{}, {}}, api.ErrRotor},
		"two twice":            {[]api.Rotor{u, v, v, u}, api.ErrThere},
	}
	for i, x := range noRotors() {
		for _, place := range []int{0, 3, 7} {
			l := eight()
			l[place] = x
			lists["wrong "+strconv.Itoa(i)+" at "+strconv.Itoa(place)] = wrongRotors{l, api.ErrRotor}
		}
	}
	for second := range 8 {
		for first := range second {
			l := eight()
			l[second] = l[first]
			lists[strconv.Itoa(first)+" again at "+strconv.Itoa(second)] = wrongRotors{l, api.ErrThere}
		}
	}
	return lists
}

// wrongNumber is a complex fraction that may not be, and its error.
type wrongNumber struct {
	a    api.Gauss
	want api.Errno
}

// wrongNumbers are such in either part, and in both: the real one's error is told.
func wrongNumbers() map[string]wrongNumber {
	long, rough := r(false, full(2049, 1), ints(1)), r(false, ints(2), ints(4))
	numbers := map[string]wrongNumber{
		"Re rough, Im too long": {g(rough, long), api.ErrNormal},
		"Re too long, Im rough": {g(long, rough), api.ErrLong},
		"nothing":               {api.Gauss{}, api.ErrNormal},
	}
	for i, w := range []struct {
		a    api.Ratio
		want api.Errno
	}{
		{long, api.ErrLong}, {r(true, ints(1), full(2049, 1)), api.ErrLong}, {r(true, full(2049, 0), nil), api.ErrLong},
		{api.Ratio{}, api.ErrNormal}, {r(false, ints(1), ints(0)), api.ErrNormal}, {r(true, nil, ints(1)), api.ErrNormal}, {r(false, nil, ints(2)), api.ErrNormal},
		{rough, api.ErrNormal}, {r(false, ints(1, 0), ints(2)), api.ErrNormal}, {r(false, ints(1), ints(2, 0)), api.ErrNormal},
	} {
		numbers["Re "+strconv.Itoa(i)] = wrongNumber{g(w.a, q(1, 2)), w.want}
		numbers["Im "+strconv.Itoa(i)] = wrongNumber{g(q(-1, 2), w.a), w.want}
	}
	return numbers
}

// other is one that may not be, and has the other error.
func other(e api.Errno) api.Gauss {
	if e == api.ErrLong {
		return api.Gauss{}
	}
	return re(r(false, full(2049, 1), ints(1)))
}

// with puts a number at a place of so many that may be; behind them come others that may not be, with the other error.
func (w wrongNumber) with(place, count int) (alone, ahead []api.Gauss) {
	alone = whole(count)
	alone[place] = w.a
	ahead = slices.Clone(alone)
	for k := place + 1; k < count; k++ {
		ahead[k] = other(w.want)
	}
	return alone, ahead
}

// wrongTide is a constituent that may not be, and its error.
type wrongTide struct {
	c    api.Tide
	want api.Errno
}

// wrongTides are such by their name, rotor, number, and by several of these: the first one's error is told.
func wrongTides() map[string]wrongTide {
	tides := map[string]wrongTide{"nothing": {api.Tide{}, api.ErrName}}
	for _, s := range []string{"", "2M", "M 2", "m_2", "M\xc3\xa9", "M2\x00", strings.Repeat("A", 21)} {
		tides["the name "+strconv.Quote(s)] = wrongTide{api.Tide{Name: s, Rotor: o(2, 1), Number: z(1, 0)}, api.ErrName}
		tides["all, the name "+strconv.Quote(s)] = wrongTide{api.Tide{Name: s}, api.ErrName}
	}
	for i, u := range noRotors() {
		tides["the rotor "+strconv.Itoa(i)] = wrongTide{api.Tide{Name: "M2", Rotor: u, Number: z(1, 0)}, api.ErrRotor}
		tides["rotor and number "+strconv.Itoa(i)] = wrongTide{api.Tide{Name: "M2", Rotor: u}, api.ErrRotor}
	}
	for key, w := range wrongNumbers() {
		tides["the number, "+key] = wrongTide{api.Tide{Name: "M2", Rotor: o(2, 1), Number: w.a}, w.want}
	}
	return tides
}

// dice is a source of numbers that is the same at each run.
type dice uint64

func (d *dice) next() uint64 {
	*d = *d*6364136223846793005 + 1442695040888963407
	x := uint64(*d)
	return x ^ x>>29
}

func (d *dice) below(k int) int { return int(d.next() >> 11 % uint64(k)) }

// ticks throws at most so many ticks up to a last one.
func (d *dice) ticks(most, last int) []int {
	var l []int
	for range d.below(most + 1) {
		l = append(l, d.below(last+1))
	}
	slices.Sort(l)
	return slices.Compact(l)
}

// rotors throws at most so many unlike rotors.
func (d *dice) rotors(most int) []api.Rotor {
	var l []api.Rotor
	for range d.below(most + 1) {
		if x := d.rotor(); !slices.Contains(l, x) {
			l = append(l, x)
		}
	}
	return l
}

func (d *dice) rotor() api.Rotor {
	top := []int{3, 5, 1000}[d.below(3)]
	for {
		far, near := int64(1+d.below(top)), int64(d.below(2*top+1)-top)
		size := max(near, -near)
		if near != 0 && far != size && new(big.Int).GCD(nil, nil, big.NewInt(far), big.NewInt(size)).Int64() == 1 {
			return o(int32(far), int32(near))
		}
	}
}

// numbers throws so many complex fractions of a few words.
func (d *dice) numbers(k int) []api.Gauss {
	var l []api.Gauss
	for range k {
		l = append(l, g(d.fraction(), d.fraction()))
	}
	return l
}

func (d *dice) fraction() api.Ratio {
	num, den := new(big.Int), big.NewInt(1)
	for range d.below(4) {
		num.Add(num.Lsh(num, 31), big.NewInt(int64(d.below(1<<31))))
		den.Add(den.Lsh(den, 31), big.NewInt(int64(d.below(1<<31))))
	}
	if d.below(2) == 0 {
		num.Neg(num)
	}
	return fraction(new(big.Rat).SetFrac(num, den))
}

// long throws a number with long parts.
func (d *dice) long() api.Gauss {
	part := func() api.Ratio {
		switch k := d.below(66000); d.below(6) {
		case 0:
			return wide(min(k, 65535))
		case 1:
			return under(min(k, 65535))
		case 2:
			return r(true, ints(1), full(1+k/33, 1<<32-1))
		case 3:
			return r(false, full(1+k/33, 1<<32-1), two(min(k, 65535)))
		}
		return d.fraction()
	}
	return g(part(), part())
}

// permuted is a list in an order that is thrown, and the place in it of each that was handed in.
func (d *dice) permuted(l []api.Rotor) ([]api.Rotor, []int) {
	l, places := slices.Clone(l), make([]int, len(l))
	at := make([]int, len(l))
	for i := range at {
		at[i] = i
	}
	for i := range l {
		k := i + d.below(len(l)-i)
		l[i], l[k], at[i], at[k] = l[k], l[i], at[k], at[i]
	}
	for i, k := range at {
		places[k] = i
	}
	return l, places
}

package stream_test

import (
	"math"
	"math/big"
	"slices"
	"strconv"
	"strings"
	"testing"

	"slackwater/api"
	"slackwater/ratio"
	"slackwater/stream"
)

// q writes the fraction n over d, d above 0, without calling what is tested.
func q(n, d int64) api.Ratio { return fraction(big.NewRat(n, d)) }

// fraction writes one of the library's fractions.
func fraction(f *big.Rat) api.Ratio {
	return api.Ratio{Neg: f.Sign() < 0, Num: wordsOf(f.Num()), Den: wordsOf(f.Denom())}
}

func wordsOf(n *big.Int) []uint32 {
	rest, low := new(big.Int).Abs(n), big.NewInt(1<<32-1)
	var words []uint32
	for rest.Sign() != 0 {
		words = append(words, uint32(new(big.Int).And(rest, low).Uint64()))
		rest.Rsh(rest, 32)
	}
	return words
}

// rational writes the library's fraction of one in its one form.
func rational(a api.Ratio) *big.Rat {
	f := new(big.Rat).SetFrac(natural(a.Num), natural(a.Den))
	if a.Neg {
		f.Neg(f)
	}
	return f
}

func natural(words []uint32) *big.Int {
	n := new(big.Int)
	for _, w := range slices.Backward(words) {
		n.Add(n.Lsh(n, 32), big.NewInt(int64(w)))
	}
	return n
}

// g writes a number of two parts, z one of two whole parts.
func g(re, im api.Ratio) api.Gauss { return api.Gauss{Re: re, Im: im} }

func z(re, im int64) api.Gauss { return g(q(re, 1), q(im, 1)) }

// r writes a sign and two lists as they are.
func r(neg bool, num, den []uint32) api.Ratio { return api.Ratio{Neg: neg, Num: num, Den: den} }

// ints writes words as they are.
func ints(words ...uint32) []uint32 { return words }

// full is a list of so many words that are all x.
func full(words int, x uint32) []uint32 { return slices.Repeat([]uint32{x}, words) }

// two is 2 to the power k.
func two(k int) []uint32 { return append(make([]uint32, k/32), 1<<(k%32)) }

// power is the fraction 2 to the power k, k below 0 too.
func power(k int) api.Ratio {
	if k < 0 {
		return r(false, ints(1), two(-k))
	}
	return r(false, two(k), ints(1))
}

// float is the fraction that a finite float is.
func float(x float64) api.Ratio { return fraction(new(big.Rat).SetFloat64(x)) }

// opposite is the fraction with the other sign.
func opposite(a api.Ratio) api.Ratio {
	a.Neg = !a.Neg && len(a.Num) > 0
	return a
}

// c writes a constituent, h a port.
func c(name string, far, near int32, number api.Gauss) api.Tide {
	return api.Tide{Name: name, Rotor: api.Rotor{Far: far, Near: near}, Number: number}
}

func h(name string, mean api.Ratio, tides ...api.Tide) api.Port {
	return api.Port{Name: name, Mean: mean, Tides: tides}
}

// m2 and m2c are the document's, of which example is the port.
func m2() api.Tide { return c("M2", 2, 1, z(1, 0)) }

func m2c() api.Tide { return c("m2", 2, -1, z(1, 0)) }

func example() api.Port { return h("Humber", q(0, 1), m2(), m2c()) }

// many are so many constituents with unlike names and rotors.
func many(k int) []api.Tide {
	var tides []api.Tide
	for i := range k {
		n := int64(i)
		tides = append(tides, c("T"+strconv.Itoa(i), int32(i+2), 1, g(q(n-3, n+1), q(7-n, 2*n+1))))
	}
	return tides
}

// beyond are no ticks of heights.
func beyond() []int {
	return []int{-1, -2, -1024, -1025, 1025, 1026, 2048, 1 << 20, 1 << 32, -1 << 32, 1<<32 + 1, math.MaxInt, math.MinInt}
}

// A list that is nil and an empty one are the same.

func sameTide(a, b api.Tide) bool {
	return a.Name == b.Name && a.Rotor == b.Rotor && sameRatio(a.Number.Re, b.Number.Re) && sameRatio(a.Number.Im, b.Number.Im)
}

func sameRatio(a, b api.Ratio) bool {
	return a.Neg == b.Neg && slices.Equal(a.Num, b.Num) && slices.Equal(a.Den, b.Den)
}

func sameSlack(a, b api.Slack) bool {
	return a.Tick == b.Tick && a.Last == b.Last && sameRatio(a.Square, b.Square)
}

func sameSlacks(a, b []api.Slack) bool { return slices.EqualFunc(a, b, sameSlack) }

// must hands on a fraction that may not be refused, and is in its one form.
func must(t *testing.T) func(a api.Ratio, e api.Errno) api.Ratio {
	return func(a api.Ratio, e api.Errno) api.Ratio {
		t.Helper()
		if e != api.OK || ratio.Check(a) != api.OK {
			t.Fatalf("answered %v, %d words", e, len(a.Num))
		}
		return a
	}
}

// mustOf hands on what may not be refused, of whatever kind.
func mustOf[T any](t *testing.T, e api.Errno, x T) T {
	t.Helper()
	if e != api.OK {
		t.Fatalf("answered %v", e)
	}
	return x
}

// bare tells whether all are +0, by their bits.
func bare(l ...float64) bool {
	return !slices.ContainsFunc(l, func(x float64) bool { return math.Float64bits(x) != 0 })
}

// refusedFloats looks whether the calls that tell of a tick in floats answer this error, and nothing beside it; refusedSquare so at the exact one.
func refusedFloats(t *testing.T, what string, p api.Port, at int, want api.Errno) {
	t.Helper()
	if x, e := stream.Rate(p, at); e != want || !bare(real(x), imag(x)) {
		t.Errorf("Rate at %d, %s: %v, %v, not %v alone", at, what, e, x, want)
	}
	if x, e := stream.Speed(p, at); e != want || !bare(x) {
		t.Errorf("Speed at %d, %s: %v, %v, not %v alone", at, what, e, x, want)
	}
}

func refusedSquare(t *testing.T, what string, p api.Port, at int, want api.Errno) {
	t.Helper()
	if x, e := stream.Square(p, at); e != want || !sameRatio(x, api.Ratio{}) {
		t.Errorf("Square at %d, %s: %v, %d words, not %v alone", at, what, e, len(x.Num), want)
	}
}

func refusedSlacks(t *testing.T, what string, p api.Port, a, b int, want api.Errno) {
	t.Helper()
	if l, e := stream.Slacks(p, a, b); e != want || len(l) > 0 {
		t.Errorf("Slacks %d to %d, %s: %v, %d of them, not %v alone", a, b, what, e, len(l), want)
	}
}

func refusedReach(t *testing.T, what string, p api.Port, want api.Errno) {
	t.Helper()
	if x, e := stream.Reach(p); e != want || !bare(x) {
		t.Errorf("Reach, %s: %v, %v, not %v alone", what, e, x, want)
	}
}

func refusedEllipse(t *testing.T, what string, a, b api.Tide, want api.Errno) {
	t.Helper()
	if x, e := stream.Ellipse(a, b); e != want || !bare(x.Greater, x.Lesser) {
		t.Errorf("Ellipse, %s: %v, %v, not %v alone", what, e, x, want)
	}
}

// wrongTide is a constituent that may not be, and its error.
type wrongTide struct {
	a    api.Tide
	want api.Errno
}

// wrongTides have a fault, or several of which the first one counts.
func wrongTides() map[string]wrongTide {
	tides := map[string]wrongTide{
		"nothing at all":          {api.Tide{}, api.ErrName},
		"a name and all else":     {c("2x", 1, 1, api.Gauss{}), api.ErrName},
		"a rotor and a number":    {c("W", 2, 4, api.Gauss{}), api.ErrRotor},
		"Re and Im":               {c("W", 8, 3, g(r(false, full(2049, 1), ints(1)), api.Ratio{})), api.ErrLong},
		"Re ahead of a longer Im": {c("W", 8, 3, g(api.Ratio{}, r(false, full(2049, 1), ints(1)))), api.ErrNormal},
	}
	for i, name := range []string{"", " ", "1x", "Hu ll", "H-1", "H\n", "é", "H\xff", strings.Repeat("H", 21)} {
		tides["name "+strconv.Itoa(i)] = wrongTide{c(name, 8, 3, z(1, 0)), api.ErrName}
	}
	for i, x := range []api.Rotor{{}, {Near: 1}, {Far: 1}, {Far: 1, Near: 1}, {Far: 1, Near: -1}, {Far: 6, Near: -9}, {Far: 1001, Near: 1}, {Far: 1, Near: -1001}, {Far: -8, Near: 1}} {
		tides["rotor "+strconv.Itoa(i)] = wrongTide{c("W", x.Far, x.Near, z(1, 0)), api.ErrRotor}
	}
	for key, w := range wrongRatios() {
		tides["Re, "+key] = wrongTide{c("W", 8, 3, g(w.a, q(0, 1))), w.want}
		tides["Im, "+key] = wrongTide{c("W", 8, 3, g(q(0, 1), w.a)), w.want}
	}
	return tides
}

// wrongRatio is a fraction that may not be, and its error.
type wrongRatio struct {
	a    api.Ratio
	want api.Errno
}

func wrongRatios() map[string]wrongRatio {
	return map[string]wrongRatio{
		"a Num too long":      {r(false, full(2049, 1), ints(1)), api.ErrLong},
		"a Den too long":      {r(true, ints(1), full(2049, 1)), api.ErrLong},
		"too long and nought": {r(true, full(2049, 0), nil), api.ErrLong},
		"nothing":             {api.Ratio{}, api.ErrNormal},
		"over a nought":       {r(false, ints(1), ints(0)), api.ErrNormal},
		"0 that is Neg":       {r(true, nil, ints(1)), api.ErrNormal},
		"0 over 2":            {r(false, nil, ints(2)), api.ErrNormal},
		"2 over 4":            {r(false, ints(2), ints(4)), api.ErrNormal},
		"a rough Num":         {r(false, ints(1, 0), ints(2)), api.ErrNormal},
		"a rough Den":         {r(false, ints(1), ints(2, 0)), api.ErrNormal},
	}
}

// wrongPort is a port that may not be, and its error.
type wrongPort struct {
	p    api.Port
	want api.Errno
}

// wrongPorts have a fault, or several of which the first one counts; some hold what floats or fractions would be refused for, too.
func wrongPorts() map[string]wrongPort {
	huge := c("huge", 8, 3, g(power(1030), power(40000)))
	ports := map[string]wrongPort{
		"nothing at all":         {api.Port{}, api.ErrName},
		"a name and all else":    {h("1", api.Ratio{}, slices.Repeat([]api.Tide{{}}, 25)...), api.ErrName},
		"a name, huge":           {h("", power(501), huge), api.ErrName},
		"25 constituents":        {h("Hull", q(1, 2), many(25)...), api.ErrLong},
		"25 that may not be":     {h("Hull", q(1, 2), make([]api.Tide, 25)...), api.ErrLong},
		"25, huge":               {h("Hull", q(1, 2), append(many(24), huge)...), api.ErrLong},
		"one twice":              {h("Hull", q(1, 2), m2(), m2()), api.ErrThere},
		"one twice, huge":        {h("Hull", power(501), huge, huge), api.ErrThere},
		"a rotor twice":          {h("Hull", q(1, 2), m2(), c("x", 2, 1, z(0, 0))), api.ErrThere},
		"a name twice":           {h("Hull", q(1, 2), m2(), c("M2", 3, 1, z(0, 0))), api.ErrThere},
		"one twice, then no one": {h("Hull", q(1, 2), m2(), m2(), api.Tide{}), api.ErrThere},
	}
	for key, w := range wrongRatios() {
		ports["mean level, "+key] = wrongPort{h("Hull", w.a, m2()), w.want}
		ports["mean level and constituents, "+key] = wrongPort{h("Hull", w.a, slices.Repeat([]api.Tide{{}}, 25)...), w.want}
	}
	for key, w := range wrongTides() {
		ports["constituent alone, "+key] = wrongPort{h("Hull", q(1, 2), w.a), w.want}
		ports["constituent behind huge ones, "+key] = wrongPort{h("Hull", power(501), huge, w.a, huge), w.want}
		ports["constituent at the end, "+key] = wrongPort{h("Hull", q(1, 2), append(many(23), w.a)...), w.want}
	}
	return ports
}

// roomy is a list in memory of its own with marked words behind it.
func roomy(words []uint32) []uint32 {
	return append(slices.Clone(words), 77, 78, 79)[:len(words)]
}

func markedRatio(a api.Ratio) api.Ratio { return r(a.Neg, roomy(a.Num), roomy(a.Den)) }

func markedTide(a api.Tide) api.Tide {
	a.Number = g(markedRatio(a.Number.Re), markedRatio(a.Number.Im))
	return a
}

// spare is what stands behind a marked port's constituents.
func spare() api.Tide { return c("spare", 77, 78, z(77, 79)) }

// marked is a port all of whose lists have marked room behind them.
func marked(p api.Port) api.Port {
	tides := make([]api.Tide, 0, len(p.Tides)+2)
	for _, x := range p.Tides {
		tides = append(tides, markedTide(x))
	}
	tides = append(tides, spare(), spare())
	return h(p.Name, markedRatio(p.Mean), tides[:len(p.Tides)]...)
}

func stands(words, was []uint32) bool {
	return slices.Equal(words, was) && slices.Equal(words[len(was):len(was)+3], ints(77, 78, 79))
}

func untouchedRatio(a, was api.Ratio) bool {
	return a.Neg == was.Neg && stands(a.Num, was.Num) && stands(a.Den, was.Den)
}

func untouchedTide(a, was api.Tide) bool {
	return sameTide(a, was) && untouchedRatio(a.Number.Re, was.Number.Re) && untouchedRatio(a.Number.Im, was.Number.Im)
}

// untouched tells whether a marked port is as it was, the room behind its lists too.
func untouched(p, was api.Port) bool {
	k := len(was.Tides)
	return p.Name == was.Name && untouchedRatio(p.Mean, was.Mean) && slices.EqualFunc(p.Tides, was.Tides, untouchedTide) &&
		slices.EqualFunc(p.Tides[k:k+2], []api.Tide{spare(), spare()}, sameTide)
}

// scribbled writes over the fractions' lists and their spare room one by one, and tells whether the others stayed as they were.
func scribbled(fractions ...api.Ratio) bool {
	var all [][]uint32
	for _, f := range fractions {
		all = append(all, f.Num[:cap(f.Num)], f.Den[:cap(f.Den)])
	}
	for i, words := range all {
		for j := range words {
			words[j] = uint32(12345 + i)
		}
	}
	for i, words := range all {
		for _, w := range words {
			if w != uint32(12345+i) {
				return false
			}
		}
	}
	return true
}

// dice is a source of numbers that is the same at each run.
type dice uint64

func (d *dice) next() uint64 {
	*d = *d*6364136223846793005 + 1442695040888963407
	x := uint64(*d)
	return x ^ x>>29
}

func (d *dice) below(k int) int { return int(d.next() >> 11 % uint64(k)) }

// spread throws a fraction of a few words that is so much greater or less by a power of 2, or 0.
func (d *dice) spread(k int) api.Ratio {
	num, den := new(big.Int), big.NewInt(1)
	for range d.below(4) {
		num.Add(num.Lsh(num, 31), big.NewInt(int64(d.below(1<<31))))
		den.Add(den.Lsh(den, 31), big.NewInt(int64(d.below(1<<31))))
	}
	if d.below(2) == 0 {
		num.Neg(num)
	}
	by := rational(power(d.below(2*k+1) - k))
	return fraction(by.Mul(by, new(big.Rat).SetFrac(num, den)))
}

// rotor throws a rotor that may be, of numbers up to a limit.
func (d *dice) rotor(limit int) api.Rotor {
	for {
		far, near := int64(1+d.below(limit)), int64(d.below(2*limit+1)-limit)
		size := max(near, -near)
		if near != 0 && far != size && new(big.Int).GCD(nil, nil, big.NewInt(far), big.NewInt(size)).Int64() == 1 {
			return api.Rotor{Far: int32(far), Near: int32(near)}
		}
	}
}

// port throws a port of at most so many constituents with rotors up to a limit, its fractions at most 2^k times as great or small as most.
func (d *dice) port(tides, limit, k int) api.Port {
	p := h("P"+strconv.Itoa(d.below(1000)), d.spread(k))
	for i := range d.below(tides + 1) {
		x := api.Tide{Name: "T" + strconv.Itoa(i), Rotor: d.rotor(limit), Number: g(d.spread(k), d.spread(k))}
		if !slices.ContainsFunc(p.Tides, func(y api.Tide) bool { return x.Rotor == y.Rotor }) {
			p.Tides = append(p.Tides, x)
		}
	}
	return p
}

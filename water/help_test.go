package water_test

import (
	"math/big"
	"slices"
	"strconv"
	"strings"

	"slackwater/api"
)

// q writes the fraction n over d, d above 0, without calling what is tested.
func q(n, d int64) api.Ratio { return fraction(big.NewRat(n, d)) }

// fraction writes one of the library's fractions.
func fraction(f *big.Rat) api.Ratio {
	return api.Ratio{Neg: f.Sign() < 0, Num: wordsOf(f.Num()), Den: wordsOf(f.Denom())}
}

func wordsOf(n *big.Int) []uint32 {
	rest, low := new(big.Int).Abs(n), big.NewInt(1<<32-1)
	var words []uint32
	for rest.Sign() != 0 {
		words = append(words, uint32(new(big.Int).And(rest, low).Uint64()))
		rest.Rsh(rest, 32)
	}
	return words
}

// rational writes the library's fraction of one in its one form.
func rational(a api.Ratio) *big.Rat {
	f := new(big.Rat).SetFrac(natural(a.Num), natural(a.Den))
	if a.Neg {
		f.Neg(f)
	}
	return f
}

func natural(words []uint32) *big.Int {
	n := new(big.Int)
	for _, w := range slices.Backward(words) {
		n.Add(n.Lsh(n, 32), big.NewInt(int64(w)))
	}
	return n
}

// g writes a number of two parts, z one of two whole parts.
func g(re, im api.Ratio) api.Gauss { return api.Gauss{Re: re, Im: im} }

func z(re, im int64) api.Gauss { return g(q(re, 1), q(im, 1)) }

// r writes a sign and two lists as they are.
func r(neg bool, num, den []uint32) api.Ratio { return api.Ratio{Neg: neg, Num: num, Den: den} }

// ints writes words as they are.
func ints(words ...uint32) []uint32 { return words }

// full is a list of so many words that are all x.
func full(words int, x uint32) []uint32 { return slices.Repeat([]uint32{x}, words) }

// two is 2 to the power k.
func two(k int) []uint32 { return append(make([]uint32, k/32), 1<<(k%32)) }

// o writes a rotor, c a constituent, h a port.
func o(far, near int32) api.Rotor { return api.Rotor{Far: far, Near: near} }

func c(name string, far, near int32, number api.Gauss) api.Tide {
	return api.Tide{Name: name, Rotor: o(far, near), Number: number}
}

func h(name string, mean api.Ratio, tides ...api.Tide) api.Port {
	return api.Port{Name: name, Mean: mean, Tides: tides}
}

// m2 is the document's, m2c beside it makes real heights.
func m2() api.Tide { return c("M2", 2, 1, g(q(1, 2), q(0, 1))) }

func m2c() api.Tide { return c("M2c", 2, -1, g(q(1, 2), q(0, 1))) }

// many are so many constituents with unlike names and rotors.
func many(k int) []api.Tide {
	var tides []api.Tide
	for i := range k {
		n := int64(i)
		tides = append(tides, c("T"+strconv.Itoa(i), int32(i+2), 1, g(q(n-3, n+1), q(7-n, 2*n+1))))
	}
	return tides
}

// sameTide holds constituents against each other; a list that is nil and an empty one are the same.
func sameTide(a, b api.Tide) bool {
	return a.Name == b.Name && a.Rotor == b.Rotor && sameRatio(a.Number.Re, b.Number.Re) && sameRatio(a.Number.Im, b.Number.Im)
}

func sameRatio(a, b api.Ratio) bool {
	return a.Neg == b.Neg && slices.Equal(a.Num, b.Num) && slices.Equal(a.Den, b.Den)
}

// noNames are no names.
func noNames() []string {
	return []string{"", " ", "1x", "9", "Hull ", " Hull", "Hu ll", "H-1", "H_", "H.", "H/2", "H\n", "\nH", "H\x00", "\x00", "é", "Hé", "H\xff", "Ｈ", "@H", "[H", "`H", "{H", ":H", "H:", strings.Repeat("H", 21), strings.Repeat("H", 276), strings.Repeat("H", 65536)}
}

// noRotors may not be.
func noRotors() []api.Rotor {
	return []api.Rotor{o(0, 0), o(0, 1), o(1, 0), o(1, 1), o(1, -1), o(2, 4), o(6, -9), o(1001, 1), o(1, 1001), o(1, -1001), o(-8, 1), o(65538, 1)}
}

// wrongRatio is a fraction that may not be, and its error.
type wrongRatio struct {
	a    api.Ratio
	want api.Errno
}

func wrongRatios() map[string]wrongRatio {
	return map[string]wrongRatio{
		"a Num too long":      {r(false, full(2049, 1), ints(1)), api.ErrLong},
		"a Den too long":      {r(true, ints(1), full(2049, 1)), api.ErrLong},
		"too long and nought": {r(true, full(2049, 0), nil), api.ErrLong},
		"nothing":             {api.Ratio{}, api.ErrNormal},
		"over a nought":       {r(false, ints(1), ints(0)), api.ErrNormal},
		"0 that is Neg":       {r(true, nil, ints(1)), api.ErrNormal},
		"0 over 2":            {r(false, nil, ints(2)), api.ErrNormal},
		"2 over 4":            {r(false, ints(2), ints(4)), api.ErrNormal},
		"a rough Num":         {r(false, ints(1, 0), ints(2)), api.ErrNormal},
		"a rough Den":         {r(false, ints(1), ints(2, 0)), api.ErrNormal},
	}
}

// wrongTide is a constituent that may not be, and its error.
type wrongTide struct {
	a    api.Tide
	want api.Errno
}

func wrongTides() map[string]wrongTide {
	tides := map[string]wrongTide{"nothing at all": {api.Tide{}, api.ErrName}}
	for i, name := range noNames() {
		tides["name "+strconv.Itoa(i)] = wrongTide{c(name, 8, 3, z(1, 0)), api.ErrName}
		tides["name and all "+strconv.Itoa(i)] = wrongTide{c(name, 1, 1, api.Gauss{}), api.ErrName}
	}
	for i, x := range noRotors() {
		tides["rotor "+strconv.Itoa(i)] = wrongTide{c("W", x.Far, x.Near, z(1, 0)), api.ErrRotor}
		tides["rotor and number "+strconv.Itoa(i)] = wrongTide{c("W", x.Far, x.Near, api.Gauss{}), api.ErrRotor}
	}
	for key, w := range wrongRatios() {
		tides["Re, "+key] = wrongTide{c("W", 8, 3, g(w.a, q(0, 1))), w.want}
		tides["Im, "+key] = wrongTide{c("W", 8, 3, g(q(0, 1), w.a)), w.want}
	}
	return tides
}

// wrongPort is a port that may not be, and its error.
type wrongPort struct {
	p    api.Port
	want api.Errno
}

// wrongPorts have a fault, or several of which the first one counts.
func wrongPorts() map[string]wrongPort {
	ports := map[string]wrongPort{"nothing at all": {api.Port{}, api.ErrName}}
	twice := []api.Tide{m2(), m2()}
	for i, name := range noNames() {
		key := strconv.Itoa(i)
		ports["name "+key] = wrongPort{h(name, q(1, 2), m2()), api.ErrName}
		ports["name, mean level "+key] = wrongPort{h(name, r(false, full(2049, 1), nil), twice...), api.ErrName}
		ports["name, constituents "+key] = wrongPort{h(name, q(1, 2), slices.Repeat(twice, 13)...), api.ErrName}
	}
	for key, w := range wrongRatios() {
		ports["mean level, "+key] = wrongPort{h("Hull", w.a, m2()), w.want}
		ports["mean level and constituents, "+key] = wrongPort{h("Hull", w.a, slices.Repeat([]api.Tide{{}}, 25)...), w.want}
	}
	for _, k := range []int{25, 26, 48, 280, 999} {
		key := strconv.Itoa(k)
		ports["constituents "+key] = wrongPort{h("Hull", q(1, 2), many(k)...), api.ErrLong}
		ports["empty constituents "+key] = wrongPort{h("Hull", q(1, 2), make([]api.Tide, k)...), api.ErrLong}
		ports["constituents, one thrice "+key] = wrongPort{h("Hull", q(1, 2), append(twice, many(k)...)...), api.ErrLong}
	}
	for key, w := range wrongTides() {
		for at := range 3 {
			tides := slices.Insert(many(4), at, w.a)
			ports["constituent "+key+" at "+strconv.Itoa(at)] = wrongPort{h("Hull", q(1, 2), tides...), w.want}
		}
		ports["constituent ahead of one twice "+key] = wrongPort{h("Hull", q(1, 2), m2(), w.a, m2(), api.Tide{}), w.want}
		ports["constituent behind one twice "+key] = wrongPort{h("Hull", q(1, 2), m2(), m2(), w.a), api.ErrThere}
		ports["constituent at the end "+key] = wrongPort{h("Hull", q(1, 2), append(many(23), w.a)...), w.want}
	}
	return ports
}

// roomy is a list in memory of its own with marked words behind it.
func roomy(words []uint32) []uint32 {
	return append(slices.Clone(words), 77, 78, 79)[:len(words)]
}

func markedRatio(a api.Ratio) api.Ratio { return r(a.Neg, roomy(a.Num), roomy(a.Den)) }

func markedTide(a api.Tide) api.Tide {
	a.Number = g(markedRatio(a.Number.Re), markedRatio(a.Number.Im))
	return a
}

// spare is what stands behind a marked port's constituents.
func spare() api.Tide { return c("spare", 77, 78, z(77, 79)) }

// marked is a port all of whose lists have marked room behind them.
func marked(p api.Port) api.Port {
	tides := make([]api.Tide, 0, len(p.Tides)+2)
	for _, x := range p.Tides {
		tides = append(tides, markedTide(x))
	}
	tides = append(tides, spare(), spare())
	return h(p.Name, markedRatio(p.Mean), tides[:len(p.Tides)]...)
}

func stands(words, was []uint32) bool {
	return slices.Equal(words, was) && slices.Equal(words[len(was):len(was)+3], ints(77, 78, 79))
}

func untouchedRatio(a, was api.Ratio) bool {
	return a.Neg == was.Neg && stands(a.Num, was.Num) && stands(a.Den, was.Den)
}

func untouchedTide(a, was api.Tide) bool {
	return sameTide(a, was) && untouchedRatio(a.Number.Re, was.Number.Re) && untouchedRatio(a.Number.Im, was.Number.Im)
}

// untouched tells whether a marked port is as it was, the room behind its lists too.
func untouched(p, was api.Port) bool {
	k := len(was.Tides)
	return p.Name == was.Name && untouchedRatio(p.Mean, was.Mean) && slices.EqualFunc(p.Tides, was.Tides, untouchedTide) &&
		slices.EqualFunc(p.Tides[k:k+2], []api.Tide{spare(), spare()}, sameTide)
}

// dice is a source of numbers that is the same at each run.
type dice uint64

func (d *dice) next() uint64 {
	*d = *d*6364136223846793005 + 1442695040888963407
	x := uint64(*d)
	return x ^ x>>29
}

func (d *dice) below(k int) int { return int(d.next() >> 11 % uint64(k)) }

// fraction throws a fraction of a few words.
func (d *dice) fraction() api.Ratio {
	num, den := new(big.Int), big.NewInt(1)
	for range d.below(4) {
		num.Add(num.Lsh(num, 31), big.NewInt(int64(d.below(1<<31))))
		den.Add(den.Lsh(den, 31), big.NewInt(int64(d.below(1<<31))))
	}
	if d.below(2) == 0 {
		num.Neg(num)
	}
	return fraction(new(big.Rat).SetFrac(num, den))
}

// spread throws a fraction that is so much greater or less by a power of 2, or 0.
func (d *dice) spread(k int) api.Ratio {
	f := rational(d.fraction())
	by := r(false, two(d.below(k+1)), ints(1))
	if d.below(2) == 0 {
		by.Num, by.Den = by.Den, by.Num
	}
	return fraction(f.Mul(f, rational(by)))
}

func (d *dice) name() string {
	const signs = "ABCDEFGHIJKLMNOPQRSTUVWXYZabcdefghijklmnopqrstuvwxyz0123456789"
	name := []byte{signs[d.below(52)]}
	for range d.below(20) {
		name = append(name, signs[d.below(62)])
	}
	return string(name)
}

// rotor throws a rotor that may be.
func (d *dice) rotor() api.Rotor {
	for {
		far, near := int64(1+d.below(1000)), int64(d.below(2001)-1000)
		size := max(near, -near)
		if near != 0 && far != size && new(big.Int).GCD(nil, nil, big.NewInt(far), big.NewInt(size)).Int64() == 1 {
			return o(int32(far), int32(near))
		}
	}
}

// port throws a port that is near, of at most so many constituents whose fractions are at most 2^k times as great or small as most.
func (d *dice) port(tides, k int) api.Port {
	p := h(d.name(), d.spread(k))
	for range d.below(tides + 1) {
		x := api.Tide{Name: d.name(), Rotor: d.rotor(), Number: g(d.spread(k), d.spread(k))}
		if !slices.ContainsFunc(p.Tides, func(y api.Tide) bool { return x.Name == y.Name || x.Rotor == y.Rotor }) {
			p.Tides = append(p.Tides, x)
		}
	}
	return p
}

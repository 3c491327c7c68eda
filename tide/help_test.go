package tide_test

import (
	"math"
	"slices"
	"strings"
	"testing"

	"slackwater/api"
	"slackwater/ratio"
)

// q writes the fraction n over d, d above 0, without calling what is tested.
func q(n, d int64) api.Ratio {
	size := uint64(n)
	if n < 0 {
		size = -size
	}
	common := greatestDivisor(size, uint64(d))
	return api.Ratio{Neg: n < 0, Num: list(size / common), Den: list(uint64(d) / common)}
}

func greatestDivisor(a, b uint64) uint64 {
	for b != 0 {
		a, b = b, a%b
	}
	return a
}

// list writes the words of a number.
func list(x uint64) []uint32 { return trimmed(uint32(x), uint32(x>>32)) }

func trimmed(words ...uint32) []uint32 {
	for len(words) > 0 && words[len(words)-1] == 0 {
		words = words[:len(words)-1]
	}
	return words
}

// g writes a number of two parts, z one of two whole parts.
func g(re, im api.Ratio) api.Gauss { return api.Gauss{Re: re, Im: im} }

func z(re, im int64) api.Gauss { return g(q(re, 1), q(im, 1)) }

// r writes a sign and two lists as they are.
func r(neg bool, num, den []uint32) api.Ratio { return api.Ratio{Neg: neg, Num: num, Den: den} }

// ints writes words as they are.
func ints(words ...uint32) []uint32 { return words }

// full is a list of so many words that are all x.
func full(words int, x uint32) []uint32 { return slices.Repeat([]uint32{x}, words) }

// greatest is 2^65536 less 1: 2,048 words, 19,729 digits.
func greatest() api.Ratio { return r(false, full(2048, 1<<32-1), ints(1)) }

// opposite is 0 less a fraction, in the same memory.
func opposite(a api.Ratio) api.Ratio {
	return api.Ratio{Neg: !a.Neg && len(a.Num) > 0, Num: a.Num, Den: a.Den}
}

// o writes a rotor, c a constituent.
func o(far, near int32) api.Rotor { return api.Rotor{Far: far, Near: near} }

func c(name string, far, near int32, number api.Gauss) api.Tide {
	return api.Tide{Name: name, Rotor: o(far, near), Number: number}
}

// m2 is the document's.
func m2() api.Tide { return c("M2", 8, 1, g(q(3, 2), q(-1, 1))) }

// some are constituents that may be.
func some() []api.Tide {
	return []api.Tide{
		m2(), c("M2", 2, 1, z(1, 0)), c("m", 1, 2, z(0, 0)), c("K1", 1000, 999, z(0, -1)), c("Z9", 999, -1000, g(q(-7, 25), q(24, 25))), c("abcdefghij0123456789", 1, -1000, g(q(1, math.MaxInt64), q(math.MinInt64, 3))),
		c("ZZZZZZZZZZZZZZZZZZZZ", 1000, 1, g(r(true, ints(1, 2, 3), ints(0, 0, 0, 1)), r(false, ints(9, 9, 9, 9), ints(2, 5)))), c("a0", 3, -2, g(greatest(), r(true, ints(1), full(2048, 1<<32-1)))),
	}
}

// same holds constituents against each other; a list that is nil and an empty one are the same.
func same(a, b api.Tide) bool {
	return a.Name == b.Name && a.Rotor == b.Rotor && sameNumber(a.Number, b.Number)
}

func sameNumber(a, b api.Gauss) bool { return sameRatio(a.Re, b.Re) && sameRatio(a.Im, b.Im) }

func sameRatio(a, b api.Ratio) bool {
	return a.Neg == b.Neg && slices.Equal(a.Num, b.Num) && slices.Equal(a.Den, b.Den)
}

// must hands on an answer that may not be refused, its fractions in their one form.
func must(t *testing.T) func(a api.Tide, e api.Errno) api.Tide {
	return func(a api.Tide, e api.Errno) api.Tide {
		t.Helper()
		if e != api.OK || ratio.Check(a.Number.Re) != api.OK || ratio.Check(a.Number.Im) != api.OK {
			t.Fatalf("answered %v, %s %v", e, a.Name, a.Rotor)
		}
		return a
	}
}

// refused looks whether an answer is this error, and nothing beside it.
func refused(t *testing.T, what string, a api.Tide, e, want api.Errno) {
	t.Helper()
	if e != want || !same(a, api.Tide{}) {
		t.Errorf("%s: %v, %s %v; not %v alone", what, e, a.Name, a.Rotor, want)
	}
}

// noNames are no names.
func noNames() []string {
	return []string{
		"", " ", "1", "2N2", "9", "0M", "m 2", "M2 ", " M2", "M-2", "M_2", "M.2", "M+", "-M", "+M", "_M", "M\x00", "\x00", "\x00M", "M\n", "\nM", "M2\t", "M/2", "M@", "@M", "M[", "[M", "M`", "`M", "M{", "{M", "M:", ":M", "/M", "Å", "é", "Mé", "éM", "Mé2", "Ｍ２", "М2", "M２", "M²", "ª", "ǅ", "M\xff", "\xff", "\xc3", "M\x80", "\ufeffM2", "M\u200d",
		"abcdefghijklmnopqrstu", "A12345678901234567890", strings.Repeat("M", 21), strings.Repeat("M", 40), strings.Repeat("M", 256), strings.Repeat("M", 276), strings.Repeat("M", 65536), strings.Repeat("M", 65556), strings.Repeat("é", 10), "M" + strings.Repeat("é", 9), strings.Repeat(" ", 20),
	}
}

// noRotors may not be.
func noRotors() []api.Rotor {
	return []api.Rotor{o(0, 0), o(0, 1), o(1, 0), o(1, 1), o(1, -1), o(2, 2), o(2, 4), o(6, -9), o(1000, 0), o(1001, 1), o(1, 1001), o(1, -1001), o(-1, 2), o(-8, 1), o(-8, -1), o(1000, 1000), o(1000, -1000), o(999, 333), o(math.MaxInt32, 1), o(1, math.MinInt32), o(math.MinInt32, math.MinInt32), o(1, math.MaxInt32), o(65537, 1), o(1, 65538)}
}

// wrongCase is a fraction that may not be, and its error.
type wrongCase struct {
	a    api.Ratio
	want api.Errno
}

// wrong are fractions that may not be.
func wrong() map[string]wrongCase {
	return map[string]wrongCase{
		"a Num too long":              {r(false, full(2049, 1), ints(1)), api.ErrLong},
		"a Den too long":              {r(true, ints(1), full(2049, 1)), api.ErrLong},
		"too long and nought":         {r(true, full(2049, 0), nil), api.ErrLong},
		"a rough Num, a Den too long": {r(false, ints(1, 0), full(2049, 0)), api.ErrLong},
		"nothing":                     {api.Ratio{}, api.ErrNormal},
		"over nothing":                {r(false, ints(1), nil), api.ErrNormal},
		"over a nought":               {r(false, ints(1), ints(0)), api.ErrNormal},
		"0 that is Neg":               {r(true, nil, ints(1)), api.ErrNormal},
		"0 over 2":                    {r(false, nil, ints(2)), api.ErrNormal},
		"a nought over 1":             {r(false, ints(0), ints(1)), api.ErrNormal},
		"2 over 4":                    {r(false, ints(2), ints(4)), api.ErrNormal},
		"a rough Num":                 {r(false, ints(1, 0), ints(2)), api.ErrNormal},
		"a rough Den":                 {r(false, ints(1), ints(2, 0)), api.ErrNormal},
	}
}

// wrongTide is a constituent that may not be, and its error.
type wrongTide struct {
	a    api.Tide
	want api.Errno
}

// wrongTides have a wrong field, or several of which the first one's error counts.
func wrongTides() map[string]wrongTide {
	tides := map[string]wrongTide{}
	long, rough := r(false, full(2049, 1), ints(1)), r(false, ints(2), ints(4))
	for _, name := range noNames() {
		tides["a name "+name] = wrongTide{c(name, 8, 1, z(1, 0)), api.ErrName}
		tides["a name, a rotor "+name] = wrongTide{c(name, 1, 1, z(1, 0)), api.ErrName}
		tides["a name, a number "+name] = wrongTide{c(name, 8, 1, g(long, rough)), api.ErrName}
	}
	for i, x := range noRotors() {
		key := string(rune('a' + i))
		tides["a rotor "+key] = wrongTide{c("M2", x.Far, x.Near, z(1, 0)), api.ErrRotor}
		tides["a rotor, a number too long "+key] = wrongTide{c("M2", x.Far, x.Near, g(long, long)), api.ErrRotor}
		tides["a rotor, a rough number "+key] = wrongTide{c("M2", x.Far, x.Near, g(rough, rough)), api.ErrRotor}
		tides["a rotor, no number "+key] = wrongTide{c("M2", x.Far, x.Near, api.Gauss{}), api.ErrRotor}
	}
	for key, w := range wrong() {
		tides["Re "+key] = wrongTide{c("M2", 8, 1, g(w.a, q(0, 1))), w.want}
		tides["Im "+key] = wrongTide{c("M2", 8, 1, g(q(-3, 2), w.a)), w.want}
		tides["Re "+key+", Im too long"] = wrongTide{c("M2", 8, 1, g(w.a, long)), w.want}
		tides["Re "+key+", Im rough"] = wrongTide{c("M2", 8, 1, g(w.a, rough)), w.want}
	}
	tides["nothing at all"] = wrongTide{api.Tide{}, api.ErrName}
	return tides
}

// roomy is a list in memory of its own with marked words behind it.
func roomy(words []uint32) []uint32 {
	return append(slices.Clone(words), 77, 78, 79)[:len(words)]
}

// marked is a constituent all of whose lists are so.
func marked(a api.Tide) api.Tide {
	a.Number = g(markedRatio(a.Number.Re), markedRatio(a.Number.Im))
	return a
}

func markedRatio(a api.Ratio) api.Ratio { return r(a.Neg, roomy(a.Num), roomy(a.Den)) }

func stands(words, was []uint32) bool {
	return slices.Equal(words, was) && slices.Equal(words[len(was):len(was)+3], ints(77, 78, 79))
}

func untouched(a, was api.Tide) bool {
	return same(a, was) && untouchedRatio(a.Number.Re, was.Number.Re) && untouchedRatio(a.Number.Im, was.Number.Im)
}

func untouchedRatio(a, was api.Ratio) bool {
	return a.Neg == was.Neg && stands(a.Num, was.Num) && stands(a.Den, was.Den)
}

// scribbled writes over an answer's lists and their spare room one by one, and tells whether the others stayed as they were.
func scribbled(a api.Tide) bool {
	lists := [][]uint32{a.Number.Re.Num, a.Number.Re.Den, a.Number.Im.Num, a.Number.Im.Den}
	for i, words := range lists {
		var was [][]uint32
		for _, other := range lists {
			was = append(was, slices.Clone(other[:cap(other)]))
		}
		for j := range words[:cap(words)] {
			words[:cap(words)][j] = uint32(12345 + i)
		}
		for j, other := range lists {
			if j != i && !slices.Equal(other[:cap(other)], was[j]) {
				return false
			}
		}
	}
	return true
}

// dice is a source of numbers that is the same at each run.
type dice uint64

func (d *dice) next() uint64 {
	*d = *d*6364136223846793005 + 1442695040888963407
	x := uint64(*d)
	return x ^ x>>29
}

func (d *dice) below(k int) int { return int(d.next() >> 11 % uint64(k)) }

// fraction throws a fraction of a few words.
func (d *dice) fraction(t *testing.T) api.Ratio {
	t.Helper()
	size := func(least int) []uint32 {
		words := make([]uint32, least+d.below(4))
		for i := range words {
			words[i] = uint32(d.next()) | uint32(least)
		}
		return trimmed(words...)
	}
	num, den := size(0), size(1)
	made, e := ratio.Make(api.Whole{Neg: d.below(2) == 0 && len(num) > 0, Words: num}, api.Whole{Words: den})
	if e != api.OK {
		t.Fatal(e)
	}
	return made
}

// tide throws a constituent that may be.
func (d *dice) tide(t *testing.T) api.Tide {
	t.Helper()
	const signs = "ABCDEFGHIJKLMNOPQRSTUVWXYZabcdefghijklmnopqrstuvwxyz0123456789"
	name := []byte{signs[d.below(52)]}
	for range d.below(20) {
		name = append(name, signs[d.below(62)])
	}
	for {
		far, near := 1+d.below(1000), d.below(2001)-1000
		if near != 0 && far != near && far != -near && greatestDivisor(uint64(far), uint64(max(near, -near))) == 1 {
			return c(string(name), int32(far), int32(near), g(d.fraction(t), d.fraction(t)))
		}
	}
}
